/-
  The exact law of DiskStep.
-/
import Derived.Test.YtbecnaabmlkjjaaDoorDiskSt
import Derived.Test.YtbecnaabmlkjjaaDoorSpecDs
import Derived.Test.YtbecnaabmlkjjaaDoorKeeps
import Derived.Test.YtbecnaabmlkjjaaDoorSzX
namespace Go.Proofs.YtbecnaabmlkjjaaDoor
open Go.ChangeShapes Go.WideShapes Go.ChangeAt Go.RowKit
set_option maxRecDepth 100000 in
set_option maxHeartbeats 8000000 in
theorem law_diskStep (d : Dk) (a : Ac) (a0 a1 a2 ak : Option Addr) (c0 c1 c2 ck : Nat) (l0 : d.nb ≤ maxLen) (l1 : d.nc ≤ maxLen) (l2 : d.ns ≤ maxLen) (m0 : ∀ i, i < d.nb → (d.B i).size ≤ maxLen) (m1 : ∀ i, i < d.nc → (d.D i).size ≤ maxLen) (m2 : ∀ i, i < d.ns → (d.S i).size ≤ maxLen) (l3 : a.nk ≤ maxLen) (m3 : a.s.size ≤ maxLen) (p0 p1 p2 p3 p4 : Addr) (w : World) (h : DiskV w d a0 a1 a2) (hk : Bools w ak a.nk a.K) (hE : Errs w p0 p1 p2 p3 p4) :
    Calls Tryd.prog 5 #[.agg #[.slice a0 d.nb c0, .slice a1 d.nc c1, .slice a2 d.ns c2], .agg #[.int .i64 a.kd, .int .i64 a.x, .string a.s, .slice ak a.nk ck, .int .i64 a.t]] w fun e w' => e = .returned (.bool true) ∧ Below w.heap.size w w' := by
  have SZ1 : Hid (∀ (x : Int) (w : World), 0 ≤ x → x ≤ 1048576 → DiskV w d a0 a1 a2 → Calls Tryd.prog 19 #[.agg #[.slice a0 d.nb c0, .slice a1 d.nc c1, .slice a2 d.ns c2], .int .i64 x] w fun e w' => (∃ y : Int, e = .returned (.int .i64 y) ∧ y ≤ 1048576 ∧ (0 ≤ y → d.nb ≤ 1048576 ∧ d.nc ≤ 1048576 ∧ d.ns ≤ 1048576)) ∧ Below w.heap.size w w') := fun x w hx hx' h => szDisk_x d a0 a1 a2 c0 c1 c2 x hx hx' w h l0 l1 l2 m0 m1 m2
  have SZ2 : Hid (∀ (x : Int) (w : World), 0 ≤ x → x ≤ 1048576 → Calls Tryd.prog 20 #[.agg #[.int .i64 a.kd, .int .i64 a.x, .string a.s, .slice ak a.nk ck, .int .i64 a.t], .int .i64 x] w fun e w' => (∃ y : Int, e = .returned (.int .i64 y) ∧ y ≤ 1048576 ∧ (0 ≤ y → a.nk ≤ 1048576 ∧ a.s.size ≤ 1048576)) ∧ Below w.heap.size w w') := fun x w hx hx' => szDiskAct_x a ak ck x w hx hx' l3 m3
  have HX : Hid (DiskV w d a0 a1 a2) := h
  have HY : Hid (Bools w ak a.nk a.K) := hk
  have HE : Hid (Errs w p0 p1 p2 p3 p4) := hE
  clear h hk hE l0 l1 l2 m0 m1 m2 l3 m3
  have A1 : Hid (Below w.heap.size w ((w.alloc (.cells #[.slice a0 d.nb c0, .slice a1 d.nc c1, .slice a2 d.ns c2] 51)).alloc (.cells #[.int .i64 a.kd, .int .i64 a.x, .string a.s, .slice ak a.nk ck, .int .i64 a.t] 52))) := ((Below.refl w.heap.size w).alloc (Nat.le_refl _) _).alloc (by simp) _
  have RA : Hid (Box3 ((w.alloc (.cells #[.slice a0 d.nb c0, .slice a1 d.nc c1, .slice a2 d.ns c2] 51)).alloc (.cells #[.int .i64 a.kd, .int .i64 a.x, .string a.s, .slice ak a.nk ck, .int .i64 a.t] 52)) w.heap.size 51 (.slice a0 d.nb c0) (.slice a1 d.nc c1) (.slice a2 d.ns c2)) := (Box3.made w _ _ _ _).alloc _
  have RB : Hid (Box5 ((w.alloc (.cells #[.slice a0 d.nb c0, .slice a1 d.nc c1, .slice a2 d.ns c2] 51)).alloc (.cells #[.int .i64 a.kd, .int .i64 a.x, .string a.s, .slice ak a.nk ck, .int .i64 a.t] 52)) (w.heap.size + 1) 52 (.int .i64 a.kd) (.int .i64 a.x) (.string a.s) (.slice ak a.nk ck) (.int .i64 a.t)) := Box5.madeAt (by simp) _ _ _ _ _ _
  go_enter Tryd.func5, Tryd.ntmps5
  go_wp2_with fail
  generalize ((w.alloc (.cells #[.slice a0 d.nb c0, .slice a1 d.nc c1, .slice a2 d.ns c2] 51)).alloc (.cells #[.int .i64 a.kd, .int .i64 a.x, .string a.s, .slice ak a.nk ck, .int .i64 a.t] 52)) = v1 at *
  refine (SZ1.out _ _ (by omega) (by omega) (HX.out.below A1.out)).mono ?_
  rintro e v2 ⟨⟨y, rfl, hy, hy2⟩, hb⟩
  replace A1 : Hid (Below w.heap.size w v2) := A1.out.trans (hb.mono A1.out.size)
  replace RA : Hid (Box3 v2 w.heap.size 51 (.slice a0 d.nb c0) (.slice a1 d.nc c1) (.slice a2 d.ns c2)) := RA.out.below hb
  replace RB : Hid (Box5 v2 (w.heap.size + 1) 52 (.int .i64 a.kd) (.int .i64 a.x) (.string a.s) (.slice ak a.nk ck) (.int .i64 a.t)) := RB.out.below hb
  clear hb SZ1
  by_cases hy0 : y < 0
  · clear hy2
    go_wp2
    go_ret
    exact ⟨rfl, A1.out⟩
  · obtain ⟨h0, h1, h2⟩ := hy2 (by omega)
    clear hy2
    have q0 := RB.out.c0
    have q1 := RB.out.c1
    have q2 := RB.out.c2
    have q3 := RB.out.c3
    have q4 := RB.out.c4
    go_wp2_with fail
    refine (SZ2.out _ _ (by omega) (by omega)).mono ?_
    rintro e v3 ⟨⟨z, rfl, hz, hz2⟩, hb⟩
    replace A1 : Hid (Below w.heap.size w v3) := A1.out.trans (hb.mono A1.out.size)
    replace RA : Hid (Box3 v3 w.heap.size 51 (.slice a0 d.nb c0) (.slice a1 d.nc c1) (.slice a2 d.ns c2)) := RA.out.below hb
    replace RB : Hid (Box5 v3 (w.heap.size + 1) 52 (.int .i64 a.kd) (.int .i64 a.x) (.string a.s) (.slice ak a.nk ck) (.int .i64 a.t)) := RB.out.below hb
    clear hb SZ2 q0 q1 q2 q3 q4
    by_cases hz0 : z < 0
    · clear hz2
      go_wp2
      go_ret
      exact ⟨rfl, A1.out⟩
    · obtain ⟨h3, h4⟩ := hz2 (by omega)
      clear hz2
      have TD : Hid (∀ w : World, DiskV w d a0 a1 a2 → Calls Tryd.prog 21 #[.agg #[.slice a0 d.nb c0, .slice a1 d.nc c1, .slice a2 d.ns c2]] w fun e w' => (∃ g0 g1 g2, e = .returned (.agg #[.slice (some ⟨g0, 0, none⟩) d.nb d.nb, .slice (some ⟨g1, 0, none⟩) d.nc d.nc, .slice (some ⟨g2, 0, none⟩) d.ns d.ns]) ∧ RowD w' d (some ⟨g0, 0, none⟩) (some ⟨g1, 0, none⟩) (some ⟨g2, 0, none⟩) g0 g1 g2 ∧ GeD d g0 g1 g2 w.heap.size) ∧ Below w.heap.size w w') := fun w h => toDisk_row d a0 a1 a2 c0 c1 c2 w h h0 h1 h2
      have TC : Hid (∀ w : World, Bools w ak a.nk a.K → Calls Tryd.prog 22 #[.agg #[.int .i64 a.kd, .int .i64 a.x, .string a.s, .slice ak a.nk ck, .int .i64 a.t]] w fun e w' => (∃ g, e = .returned (.agg #[.int .i64 a.kd, .int .i64 a.x, .string a.s, .slice (some ⟨g, 0, none⟩) a.nk a.nk, .int .i64 a.t]) ∧ (w').rowIs g 4 a.nk (fun i => .bool (a.K i)) ∧ w.heap.size ≤ g) ∧ Below w.heap.size w w') := fun w h => toDiskAct_row a ak ck h3 w h
      obtain ⟨k, code, hr, k0, k1, k2⟩ : ∃ (k : Dk) (code : Int), ((d.Ok ∧ k = d.done a ∧ code = codeF (d.fault a)) ∨ (¬ d.Ok ∧ k = newD 0 ∧ code = 1)) ∧ k.nb ≤ 1048576 ∧ k.nc ≤ 1048576 ∧ k.ns ≤ 1048576 := by
        by_cases q : d.Ok
        · have z := Dk.done_small q a; exact ⟨_, _, .inl ⟨q, rfl, rfl⟩, by omega, by omega, by omega⟩
        · exact ⟨_, _, .inr ⟨q, rfl, rfl⟩, by show 0 ≤ 1048576; omega, by show 0 ≤ 1048576; omega, by show 0 ≤ 1048576; omega⟩
      have SO : Hid (∀ (w : World) (x0 x1 x2 y : Addr), DiskV w d (some x0) (some x1) (some x2) → Bools w (some y) a.nk a.K → Calls Tryd.prog 17 #[.agg #[.slice (some x0) d.nb d.nb, .slice (some x1) d.nc d.nc, .slice (some x2) d.ns d.ns], .agg #[.int .i64 a.kd, .int .i64 a.x, .string a.s, .slice (some y) a.nk a.nk, .int .i64 a.t]] w fun e w' => RetD w.heap.size w' e k code ∧ Below w.heap.size w w') := fun w x0 x1 x2 y h hb => by
        rcases hr with ⟨q1, rfl, rfl⟩ | ⟨q1, rfl, rfl⟩
        · exact specStep_ok d a _ _ _ _ _ _ _ _ (fun h => by cases h) (fun h => by cases h) (fun h => by cases h) ⟨h0, h1, h2⟩ q1 h3 w h hb.bls
        · exact specStep_bad d a _ _ _ _ _ _ _ _ ⟨h0, h1, h2⟩ q1 w h
      have IY : Hid (∀ (w : World) (x0 x1 x2 y : Addr), DiskV w d (some x0) (some x1) (some x2) → Bools w (some y) a.nk a.K → Errs w p0 p1 p2 p3 p4 → Calls Tryd.prog 15 #[.agg #[.slice (some x0) d.nb d.nb, .slice (some x1) d.nc d.nc, .slice (some x2) d.ns d.ns], .agg #[.int .i64 a.kd, .int .i64 a.x, .string a.s, .slice (some y) a.nk a.nk, .int .i64 a.t]] w fun e w' => RetD w.heap.size w' e k code ∧ Below w.heap.size w w') := fun w x0 x1 x2 y h hb he => by
        rcases hr with ⟨q1, rfl, rfl⟩ | ⟨q1, rfl, rfl⟩
        · exact implStep_ok d a _ _ _ _ _ _ _ _ (fun h => by cases h) (fun h => by cases h) (fun h => by cases h) ⟨h0, h1, h2⟩ q1 h3 p0 p1 p2 p3 p4 w h hb.bls he
        · exact implStep_bad d a _ _ _ _ _ _ _ _ ⟨h0, h1, h2⟩ q1 p0 p1 p2 p3 p4 w h he
      have EQ : Hid (∀ (w : World) (x0 x1 x2 y0 y1 y2 : Option Addr) (r0 r1 r2 s0 s1 s2 : Nat), DiskV w k x0 x1 x2 → DiskV w k y0 y1 y2 → Calls Tryd.prog 23 #[.agg #[.slice x0 k.nb r0, .slice x1 k.nc r1, .slice x2 k.ns r2], .agg #[.slice y0 k.nb s0, .slice y1 k.nc s1, .slice y2 k.ns s2]] w fun e w' => e = .returned (.bool true) ∧ Below w.heap.size w w') := fun w x0 x1 x2 y0 y1 y2 r0 r1 r2 s0 s1 s2 h h' => eqDisk_yes k k x0 x1 x2 y0 y1 y2 _ _ _ _ _ _ w h h' rfl rfl rfl (fun _ _ => rfl) (fun _ _ => ⟨rfl, rfl⟩) (fun _ _ => rfl) k0 k1 k2
      have ED : Hid (∀ (w : World) (x0 x1 x2 y0 y1 y2 : Option Addr) (r0 r1 r2 s0 s1 s2 : Nat), DiskV w d x0 x1 x2 → DiskV w d y0 y1 y2 → Calls Tryd.prog 23 #[.agg #[.slice x0 d.nb r0, .slice x1 d.nc r1, .slice x2 d.ns r2], .agg #[.slice y0 d.nb s0, .slice y1 d.nc s1, .slice y2 d.ns s2]] w fun e w' => e = .returned (.bool true) ∧ Below w.heap.size w w') := fun w x0 x1 x2 y0 y1 y2 r0 r1 r2 s0 s1 s2 h h' => eqDisk_yes d d x0 x1 x2 y0 y1 y2 _ _ _ _ _ _ w h h' rfl rfl rfl (fun _ _ => rfl) (fun _ _ => ⟨rfl, rfl⟩) (fun _ _ => rfl) h0 h1 h2
      have EA : Hid (∀ (w : World) (x y : Option Addr) (r s : Nat), Bools w x a.nk a.K → Bools w y a.nk a.K → Calls Tryd.prog 24 #[.agg #[.int .i64 a.kd, .int .i64 a.x, .string a.s, .slice x a.nk r, .int .i64 a.t], .agg #[.int .i64 a.kd, .int .i64 a.x, .string a.s, .slice y a.nk s, .int .i64 a.t]] w fun e w' => e = .returned (.bool true) ∧ Below w.heap.size w w') := fun w x y r s h h' => eqDiskAct_yes a x y r s h3 w h h'
      obtain ⟨M, hM⟩ : ∃ M, M = 1 + k.nb + 2 * k.nc + k.ns := ⟨_, rfl⟩
      obtain ⟨N, hN⟩ : ∃ M, M = 1 + d.nb + 2 * d.nc + d.ns := ⟨_, rfl⟩
      have MK : Hid (∀ (B : Nat) (w : World) (x0 x1 x2 : Option Addr) (r0 r1 r2 g0 g1 g2 : Nat), GeD k g0 g1 g2 B → B ≤ w.heap.size → RowD w k x0 x1 x2 g0 g1 g2 → Calls Tryd.prog 25 #[.agg #[.slice x0 k.nb r0, .slice x1 k.nc r1, .slice x2 k.ns r2], .int .i64 1] w fun e w' => e = .returned (.int .i64 (M : Int)) ∧ RowD w' (markK k 1) x0 x1 x2 g0 g1 g2 ∧ KeepG w w' k g0 g1 g2 ∧ Below B w w') := fun B w x0 x1 x2 r0 r1 r2 g0 g1 g2 hB hw h => by rw [hM]; exact markDisk_any B k x0 x1 x2 r0 r1 r2 g0 g1 g2 1 (by omega) (by omega) hB w hw h
      have MD : Hid (∀ (B : Nat) (w : World) (x0 x1 x2 : Option Addr) (r0 r1 r2 g0 g1 g2 : Nat), GeD d g0 g1 g2 B → B ≤ w.heap.size → RowD w d x0 x1 x2 g0 g1 g2 → Calls Tryd.prog 25 #[.agg #[.slice x0 d.nb r0, .slice x1 d.nc r1, .slice x2 d.ns r2], .int .i64 1] w fun e w' => e = .returned (.int .i64 (N : Int)) ∧ RowD w' (markK d 1) x0 x1 x2 g0 g1 g2 ∧ KeepG w w' d g0 g1 g2 ∧ Below B w w') := fun B w x0 x1 x2 r0 r1 r2 g0 g1 g2 hB hw h => by rw [hN]; exact markDisk_any B d x0 x1 x2 r0 r1 r2 g0 g1 g2 1 (by omega) (by omega) hB w hw h
      have MA : Hid (∀ (w : World) (g r : Nat), w.rowIs g 4 a.nk (fun i => .bool (a.K i)) → Calls Tryd.prog 26 #[.agg #[.int .i64 a.kd, .int .i64 a.x, .string a.s, .slice (some ⟨g, 0, none⟩) a.nk r, .int .i64 a.t], .int .i64 (N : Int)] w fun e w' => e = .returned (.int .i64 ((N + a.nk : Nat) : Int)) ∧ OnlyB g w w') := fun w g r h => markDiskAct_any a g r N (by omega) w h
      have HK : Hid (∀ (w : World) (x0 x1 x2 : Option Addr) (r0 r1 r2 : Nat), DiskV w (markK k 1) x0 x1 x2 → Calls Tryd.prog 27 #[.agg #[.slice x0 k.nb r0, .slice x1 k.nc r1, .slice x2 k.ns r2], .int .i64 1] w fun e w' => e = .returned (.int .i64 (M : Int)) ∧ Below w.heap.size w w') := fun w x0 x1 x2 r0 r1 r2 h => by rw [hM]; exact heldDisk_yes k x0 x1 x2 r0 r1 r2 1 (by omega) (by omega) w h
      have mm0 : ¬ (M : Int) < 0 := by omega
      obtain ⟨NN, hNN⟩ : ∃ NN, NN = N + a.nk := ⟨_, rfl⟩
      rw [← hNN] at MA
      have mm1 : ¬ (NN : Int) < 0 := by omega
      have er : (code != code) = false := by simp
      have er2 : ((M : Int) != (M : Int)) = false := by simp
      clear hr h0 h1 h2 h3 h4 k0 k1 k2 hM hN hNN hy
      go_wp2_with fail
      clear hz hy0 hz0
      go_cut [6, 7] (fun p c wx => ∃ (bs : Nat) (sa0 sa1 sa2 : Option Addr) (sc0 sc1 sc2 sg0 sg1 sg2 : Nat), p = .pointer (some ⟨bs, 0, none⟩) ∧ c = .int .i64 code ∧ Box3 wx bs 28 (.slice sa0 k.nb sc0) (.slice sa1 k.nc sc1) (.slice sa2 k.ns sc2) ∧ RowD wx k sa0 sa1 sa2 sg0 sg1 sg2 ∧ (Box3 wx w.heap.size 51 (.slice a0 d.nb c0) (.slice a1 d.nc c1) (.slice a2 d.ns c2)) ∧ (Box5 wx (w.heap.size + 1) 52 (.int .i64 a.kd) (.int .i64 a.x) (.string a.s) (.slice ak a.nk ck) (.int .i64 a.t)) ∧ Below w.heap.size w wx)
      case first =>
        have hb : Below v3.heap.size v3 v3.drew := (Below.refl _ _).drew
        have H : (Box3 v3.drew w.heap.size 51 (.slice a0 d.nb c0) (.slice a1 d.nc c1) (.slice a2 d.ns c2)) ∧ (Box5 v3.drew (w.heap.size + 1) 52 (.int .i64 a.kd) (.int .i64 a.x) (.string a.s) (.slice ak a.nk ck) (.int .i64 a.t)) := ⟨RA.out.below hb, RB.out.below hb⟩
        replace A1 : Hid (Below w.heap.size w v3.drew) := A1.out.trans (hb.mono A1.out.size)
        clear hb RA RB
        refine wp_region_noPanic ?_
        refine wp_region_held_drew (S := fun w' => (Box3 w' w.heap.size 51 (.slice a0 d.nb c0) (.slice a1 d.nc c1) (.slice a2 d.ns c2)) ∧ (Box5 w' (w.heap.size + 1) 52 (.int .i64 a.kd) (.int .i64 a.x) (.string a.s) (.slice ak a.nk ck) (.int .i64 a.t))) (by kernel_rfl) H (fun _ => ?_)
        generalize v3.drew = v4 at *
        refine wpAnyH_take (i := 0) (v := .agg #[.slice a0 d.nb c0, .slice a1 d.nc c1, .slice a2 d.ns c2]) rfl (by kernel_rfl) (by kernel_rfl) (by kernel_rfl) (fun _ _ _ h => h) (Or.inl ⟨by rfl, ?_⟩) H ?_
        · intro w' hSw; have t0 := hSw.1.c0; have t1 := hSw.1.c1; have t2 := hSw.1.c2; clear hSw; go_simp
        change wpAnyH _ _ _ _ _ _ _ { tmps := #[_, _, _, _, _, _, _, _, _, _, _, _, _, _, _, _, _, _, _, _, _, _, _, _, _, _, _, _, _, _, _, _, _, _, _, _, _, _, _, _, _, _, _, _, _, _, _, _, _, _, _, _, _, _, _, _, _, _, _, _, _, _, _, _, _, _, _, _, _, _, _, _, _, _, _, _, _, _, _, _, _, _, _, _, _, _, _, _, _, _, _, _, _, _, _, _, _, _, _, _, _, _, _, _, _, _, _, _, _, _, _, _, _, _, _, _, _, _, _], defers := _ } _
        refine wpAnyH_take (i := 2) (v := .agg #[.int .i64 a.kd, .int .i64 a.x, .string a.s, .slice ak a.nk ck, .int .i64 a.t]) rfl (by kernel_rfl) (by kernel_rfl) (by kernel_rfl) (fun _ _ _ h => h) (Or.inl ⟨by rfl, ?_⟩) H ?_
        · intro w' hSw; have t0 := hSw.2.c0; have t1 := hSw.2.c1; have t2 := hSw.2.c2; have t3 := hSw.2.c3; have t4 := hSw.2.c4; clear hSw; go_simp
        change wpAnyH _ _ _ _ _ _ _ { tmps := #[_, _, _, _, _, _, _, _, _, _, _, _, _, _, _, _, _, _, _, _, _, _, _, _, _, _, _, _, _, _, _, _, _, _, _, _, _, _, _, _, _, _, _, _, _, _, _, _, _, _, _, _, _, _, _, _, _, _, _, _, _, _, _, _, _, _, _, _, _, _, _, _, _, _, _, _, _, _, _, _, _, _, _, _, _, _, _, _, _, _, _, _, _, _, _, _, _, _, _, _, _, _, _, _, _, _, _, _, _, _, _, _, _, _, _, _, _, _, _], defers := _ } _
        refine wpAnyH_ready (rs := [1, 8]) (by kernel_rfl) (by simp) ?_
        refine (AllReadyH.cons rfl (fun KK hK => ?_) (AllReadyH.cons rfl (fun KK hK => ?_) AllReadyH.nil))
        · skip
          go_simp
          refine (TD.out _ (HX.out.below A1.out)).mono ?_
          rintro e v5 ⟨⟨f0, f1, f2, rfl, rd, gd⟩, hb⟩
          replace A1 : Hid (Below w.heap.size w v5) := A1.out.trans (hb.mono A1.out.size)
          replace H : (Box3 v5 w.heap.size 51 (.slice a0 d.nb c0) (.slice a1 d.nc c1) (.slice a2 d.ns c2)) ∧ (Box5 v5 (w.heap.size + 1) 52 (.int .i64 a.kd) (.int .i64 a.x) (.string a.s) (.slice ak a.nk ck) (.int .i64 a.t)) := ⟨H.1.below hb, H.2.below hb⟩
          have V1 : Hid (RowD v5 d (some ⟨f0, 0, none⟩) (some ⟨f1, 0, none⟩) (some ⟨f2, 0, none⟩) f0 f1 f2) := rd
          clear hb rd gd
          refine hK.out _ _ H (fun _ => ?_)
          clear hK KK
          change wpAnyH _ _ _ _ _ _ _ { tmps := #[_, _, _, _, _, _, _, _, _, _, _, _, _, _, _, _, _, _, _, _, _, _, _, _, _, _, _, _, _, _, _, _, _, _, _, _, _, _, _, _, _, _, _, _, _, _, _, _, _, _, _, _, _, _, _, _, _, _, _, _, _, _, _, _, _, _, _, _, _, _, _, _, _, _, _, _, _, _, _, _, _, _, _, _, _, _, _, _, _, _, _, _, _, _, _, _, _, _, _, _, _, _, _, _, _, _, _, _, _, _, _, _, _, _, _, _, _, _, _], defers := _ } _
          refine wpAnyH_ready (rs := [3, 8]) (by kernel_rfl) (by simp) ?_
          refine (AllReadyH.cons rfl (fun KK hK => ?_) (AllReadyH.cons rfl (fun KK hK => ?_) AllReadyH.nil))
          · skip
            go_simp
            refine (TC.out _ (HY.out.below A1.out)).mono ?_
            rintro e v6 ⟨⟨fb, rfl, rd, gd⟩, hb⟩
            replace A1 : Hid (Below w.heap.size w v6) := A1.out.trans (hb.mono A1.out.size)
            replace V1 : Hid (RowD v6 d (some ⟨f0, 0, none⟩) (some ⟨f1, 0, none⟩) (some ⟨f2, 0, none⟩) f0 f1 f2) := V1.out.below hb
            replace H : (Box3 v6 w.heap.size 51 (.slice a0 d.nb c0) (.slice a1 d.nc c1) (.slice a2 d.ns c2)) ∧ (Box5 v6 (w.heap.size + 1) 52 (.int .i64 a.kd) (.int .i64 a.x) (.string a.s) (.slice ak a.nk ck) (.int .i64 a.t)) := ⟨H.1.below hb, H.2.below hb⟩
            have V2 : Hid ((v6).rowIs fb 4 a.nk (fun i => .bool (a.K i))) := rd
            clear hb rd gd
            refine hK.out _ _ H (fun _ => ?_)
            clear hK KK
            change wpAnyH _ _ _ _ _ _ _ { tmps := #[_, _, _, _, _, _, _, _, _, _, _, _, _, _, _, _, _, _, _, _, _, _, _, _, _, _, _, _, _, _, _, _, _, _, _, _, _, _, _, _, _, _, _, _, _, _, _, _, _, _, _, _, _, _, _, _, _, _, _, _, _, _, _, _, _, _, _, _, _, _, _, _, _, _, _, _, _, _, _, _, _, _, _, _, _, _, _, _, _, _, _, _, _, _, _, _, _, _, _, _, _, _, _, _, _, _, _, _, _, _, _, _, _, _, _, _, _, _, _], defers := _ } _
            refine wpAnyH_ready (rs := [4, 8]) (by kernel_rfl) (by simp) ?_
            refine (AllReadyH.cons rfl (fun KK hK => ?_) (AllReadyH.cons rfl (fun KK hK => ?_) AllReadyH.nil))
            · skip
              go_simp
              refine (SO.out _ _ _ _ _ V1.out.diskV (Bools.ofRow V2.out)).mono ?_
              rintro e v7 ⟨⟨sa0, sa1, sa2, sc0, sc1, sc2, sg0, sg1, sg2, rfl, rd, hi0, hi1, hi2⟩, hb⟩
              replace A1 : Hid (Below w.heap.size w v7) := A1.out.trans (hb.mono A1.out.size)
              replace V1 : Hid (RowD v7 d (some ⟨f0, 0, none⟩) (some ⟨f1, 0, none⟩) (some ⟨f2, 0, none⟩) f0 f1 f2) := V1.out.below hb
              replace V2 : Hid ((v7).rowIs fb 4 a.nk (fun i => .bool (a.K i))) := World.rowIs.of_block V2.out (hb.block _ (World.rowIs.lt V2.out))
              replace H : (Box3 v7 w.heap.size 51 (.slice a0 d.nb c0) (.slice a1 d.nc c1) (.slice a2 d.ns c2)) ∧ (Box5 v7 (w.heap.size + 1) 52 (.int .i64 a.kd) (.int .i64 a.x) (.string a.s) (.slice ak a.nk ck) (.int .i64 a.t)) := ⟨H.1.below hb, H.2.below hb⟩
              have VS : Hid (RowD v7 k sa0 sa1 sa2 sg0 sg1 sg2) := rd
              clear hb rd
              clear hi0 hi1 hi2
              clear V1 V2
              refine hK.out _ _ H (fun _ => ?_)
              clear hK KK
              change wpAnyH _ _ _ _ _ _ _ { tmps := #[_, _, _, _, _, _, _, _, _, _, _, _, _, _, _, _, _, _, _, _, _, _, _, _, _, _, _, _, _, _, _, _, _, _, _, _, _, _, _, _, _, _, _, _, _, _, _, _, _, _, _, _, _, _, _, _, _, _, _, _, _, _, _, _, _, _, _, _, _, _, _, _, _, _, _, _, _, _, _, _, _, _, _, _, _, _, _, _, _, _, _, _, _, _, _, _, _, _, _, _, _, _, _, _, _, _, _, _, _, _, _, _, _, _, _, _, _, _, _], defers := _ } _
              refine wpAnyH_take (i := 5) (v := .tuple #[.agg #[.slice sa0 k.nb sc0, .slice sa1 k.nc sc1, .slice sa2 k.ns sc2], .int .i64 code]) rfl (by kernel_rfl) (by kernel_rfl) (by kernel_rfl) (fun _ _ _ h => h) (Or.inl ⟨by rfl, ?_⟩) H ?_
              · intro w' hSw; go_simp
              change wpAnyH _ _ _ _ _ _ _ { tmps := #[_, _, _, _, _, _, _, _, _, _, _, _, _, _, _, _, _, _, _, _, _, _, _, _, _, _, _, _, _, _, _, _, _, _, _, _, _, _, _, _, _, _, _, _, _, _, _, _, _, _, _, _, _, _, _, _, _, _, _, _, _, _, _, _, _, _, _, _, _, _, _, _, _, _, _, _, _, _, _, _, _, _, _, _, _, _, _, _, _, _, _, _, _, _, _, _, _, _, _, _, _, _, _, _, _, _, _, _, _, _, _, _, _, _, _, _, _, _, _], defers := _ } _
              refine wpAnyH_take (i := 6) (v := .agg #[.slice sa0 k.nb sc0, .slice sa1 k.nc sc1, .slice sa2 k.ns sc2]) rfl (by kernel_rfl) (by kernel_rfl) (by kernel_rfl) (fun _ _ _ h => h) (Or.inl ⟨by rfl, ?_⟩) H ?_
              · intro w' hSw; go_simp
              change wpAnyH _ _ _ _ _ _ _ { tmps := #[_, _, _, _, _, _, _, _, _, _, _, _, _, _, _, _, _, _, _, _, _, _, _, _, _, _, _, _, _, _, _, _, _, _, _, _, _, _, _, _, _, _, _, _, _, _, _, _, _, _, _, _, _, _, _, _, _, _, _, _, _, _, _, _, _, _, _, _, _, _, _, _, _, _, _, _, _, _, _, _, _, _, _, _, _, _, _, _, _, _, _, _, _, _, _, _, _, _, _, _, _, _, _, _, _, _, _, _, _, _, _, _, _, _, _, _, _, _, _], defers := _ } _
              refine wpAnyH_take (i := 7) (v := .int .i64 code) rfl (by kernel_rfl) (by kernel_rfl) (by kernel_rfl) (fun _ _ _ h => h) (Or.inl ⟨by rfl, ?_⟩) H ?_
              · intro w' hSw; go_simp
              change wpAnyH _ _ _ _ _ _ _ { tmps := #[_, _, _, _, _, _, _, _, _, _, _, _, _, _, _, _, _, _, _, _, _, _, _, _, _, _, _, _, _, _, _, _, _, _, _, _, _, _, _, _, _, _, _, _, _, _, _, _, _, _, _, _, _, _, _, _, _, _, _, _, _, _, _, _, _, _, _, _, _, _, _, _, _, _, _, _, _, _, _, _, _, _, _, _, _, _, _, _, _, _, _, _, _, _, _, _, _, _, _, _, _, _, _, _, _, _, _, _, _, _, _, _, _, _, _, _, _, _, _], defers := _ } _
              refine wpAnyH_ready (rs := [8]) (by kernel_rfl) (by simp) ?_
              refine (AllReadyH.cons rfl (fun KK hK => ?_) AllReadyH.nil)
              go_simp
              have hb : Below v7.heap.size v7 (v7.alloc (.cells #[.slice none 0 0, .slice none 0 0, .slice none 0 0] 28)) := (Below.refl _ _).alloc (Nat.le_refl _) _
              have PZ : Hid (Box3 (v7.alloc (.cells #[.slice none 0 0, .slice none 0 0, .slice none 0 0] 28)) v7.heap.size 28 (.slice none 0 0) (.slice none 0 0) (.slice none 0 0)) := Box3.made _ _ _ _ _
              have LA : Hid (w.heap.size ≤ v7.heap.size) := A1.out.size
              have LRA : Hid (w.heap.size < v7.heap.size) := H.1.lt
              have LRB : Hid (w.heap.size + 1 < v7.heap.size) := H.2.lt
              have LVS : Hid (LtD k sg0 sg1 sg2 v7.heap.size) := VS.out.ltD
              replace H : (Box3 (v7.alloc (.cells #[.slice none 0 0, .slice none 0 0, .slice none 0 0] 28)) w.heap.size 51 (.slice a0 d.nb c0) (.slice a1 d.nc c1) (.slice a2 d.ns c2)) ∧ (Box5 (v7.alloc (.cells #[.slice none 0 0, .slice none 0 0, .slice none 0 0] 28)) (w.heap.size + 1) 52 (.int .i64 a.kd) (.int .i64 a.x) (.string a.s) (.slice ak a.nk ck) (.int .i64 a.t)) := ⟨H.1.below hb, H.2.below hb⟩
              refine hK.out _ _ H (fun _ => ?_)
              clear hK KK
              change wpAnyH _ _ _ _ _ _ _ { tmps := #[_, _, _, _, _, _, _, _, _, _, _, _, _, _, _, _, _, _, _, _, _, _, _, _, _, _, _, _, _, _, _, _, _, _, _, _, _, _, _, _, _, _, _, _, _, _, _, _, _, _, _, _, _, _, _, _, _, _, _, _, _, _, _, _, _, _, _, _, _, _, _, _, _, _, _, _, _, _, _, _, _, _, _, _, _, _, _, _, _, _, _, _, _, _, _, _, _, _, _, _, _, _, _, _, _, _, _, _, _, _, _, _, _, _, _, _, _, _, _], defers := _ } _
              generalize (v7.alloc (.cells #[.slice none 0 0, .slice none 0 0, .slice none 0 0] 28)) = v8 at *
              replace A1 : Hid (Below w.heap.size w v8) := A1.out.trans (hb.mono A1.out.size)
              replace VS : Hid (RowD v8 k sa0 sa1 sa2 sg0 sg1 sg2) := VS.out.below hb
              clear hb
              obtain ⟨pb, hpb⟩ : ∃ bx, bx = v7.heap.size := ⟨_, rfl⟩
              rw [← hpb] at LA PZ LRA LRB LVS ⊢
              clear hpb
              refine wpAnyH_ready (rs := [9]) (by kernel_rfl) (by simp) ?_
              refine AllReadyH.cons rfl (fun KK hK => ?_) AllReadyH.nil
              rw [if_pos (by rfl)]
              refine wp_store_mid 28 (.tmp 6) (.tmp 33) rfl pb 0 #[.slice sa0 k.nb sc0, .slice sa1 k.nc sc1, .slice sa2 k.ns sc2] rfl rfl PZ.out.there Tryd.sizeDk (oneSl3 _ _ _ _ _ _ _ _ _) ?_
              have ho : OnlyB pb v8 (v8.setCells pb 0 [.slice sa0 k.nb sc0, .slice sa1 k.nc sc1, .slice sa2 k.ns sc2]) := OnlyB.stored3 _ _ _ _ _
              have hk := ho.keepR
              have XN : Hid (Box3 (v8.setCells pb 0 [.slice sa0 k.nb sc0, .slice sa1 k.nc sc1, .slice sa2 k.ns sc2]) pb 28 (.slice sa0 k.nb sc0) (.slice sa1 k.nc sc1) (.slice sa2 k.ns sc2)) := PZ.out.stored _ _ _
              have sz1 : v8.heap.size ≤ (v8.setCells pb 0 [.slice sa0 k.nb sc0, .slice sa1 k.nc sc1, .slice sa2 k.ns sc2]).heap.size := ho.size
              replace A1 : Hid (Below w.heap.size w (v8.setCells pb 0 [.slice sa0 k.nb sc0, .slice sa1 k.nc sc1, .slice sa2 k.ns sc2])) := A1.out.trans (ho.toBelow LA.out A1.out.size)
              replace VS : Hid (RowD (v8.setCells pb 0 [.slice sa0 k.nb sc0, .slice sa1 k.nc sc1, .slice sa2 k.ns sc2]) k sa0 sa1 sa2 sg0 sg1 sg2) := VS.out.keepR hk (.inl LVS.out)
              replace H : (Box3 (v8.setCells pb 0 [.slice sa0 k.nb sc0, .slice sa1 k.nc sc1, .slice sa2 k.ns sc2]) w.heap.size 51 (.slice a0 d.nb c0) (.slice a1 d.nc c1) (.slice a2 d.ns c2)) ∧ (Box5 (v8.setCells pb 0 [.slice sa0 k.nb sc0, .slice sa1 k.nc sc1, .slice sa2 k.ns sc2]) (w.heap.size + 1) 52 (.int .i64 a.kd) (.int .i64 a.x) (.string a.s) (.slice ak a.nk ck) (.int .i64 a.t)) := ⟨H.1.keepR hk (.inl LRA.out), H.2.keepR hk (.inl LRB.out)⟩
              refine hK.out _ _ H (fun _ => ?_)
              clear hK KK PZ ho hk sz1
              generalize (v8.setCells pb 0 [.slice sa0 k.nb sc0, .slice sa1 k.nc sc1, .slice sa2 k.ns sc2]) = v9 at *
              change wpAnyH _ _ _ _ _ _ _ { tmps := #[_, _, _, _, _, _, _, _, _, _, _, _, _, _, _, _, _, _, _, _, _, _, _, _, _, _, _, _, _, _, _, _, _, _, _, _, _, _, _, _, _, _, _, _, _, _, _, _, _, _, _, _, _, _, _, _, _, _, _, _, _, _, _, _, _, _, _, _, _, _, _, _, _, _, _, _, _, _, _, _, _, _, _, _, _, _, _, _, _, _, _, _, _, _, _, _, _, _, _, _, _, _, _, _, _, _, _, _, _, _, _, _, _, _, _, _, _, _, _], defers := _ } _
              refine wpAnyH_take (i := 10) (v := .int .i64 code) rfl (by kernel_rfl) (by kernel_rfl) (by kernel_rfl) (fun _ _ _ h => h) (Or.inl ⟨by rfl, ?_⟩) H ?_
              · intro w' hSw; go_simp
              change wpAnyH _ _ _ _ _ _ _ { tmps := #[_, _, _, _, _, _, _, _, _, _, _, _, _, _, _, _, _, _, _, _, _, _, _, _, _, _, _, _, _, _, _, _, _, _, _, _, _, _, _, _, _, _, _, _, _, _, _, _, _, _, _, _, _, _, _, _, _, _, _, _, _, _, _, _, _, _, _, _, _, _, _, _, _, _, _, _, _, _, _, _, _, _, _, _, _, _, _, _, _, _, _, _, _, _, _, _, _, _, _, _, _, _, _, _, _, _, _, _, _, _, _, _, _, _, _, _, _, _, _], defers := _ } _
              refine wpAnyH_done (by kernel_rfl) ?_ _
              refine NoPanic.normal ?_
              change Exit.then _ _ Exit.normal { tmps := #[_, _, _, _, _, _, _, _, _, _, _, _, _, _, _, _, _, _, _, _, _, _, _, _, _, _, _, _, _, _, _, _, _, _, _, _, _, _, _, _, _, _, _, _, _, _, _, _, _, _, _, _, _, _, _, _, _, _, _, _, _, _, _, _, _, _, _, _, _, _, _, _, _, _, _, _, _, _, _, _, _, _, _, _, _, _, _, _, _, _, _, _, _, _, _, _, _, _, _, _, _, _, _, _, _, _, _, _, _, _, _, _, _, _, _, _, _, _, _], defers := _ } _
              go_wp2_with fail
              go_meet
              exact ⟨pb, sa0, sa1, sa2, sc0, sc1, sc2, sg0, sg1, sg2, rfl, rfl, XN.out, VS.out, H.1, H.2, A1.out⟩
            · skip
              go_simp
              have hb : Below v6.heap.size v6 (v6.alloc (.cells #[.slice none 0 0, .slice none 0 0, .slice none 0 0] 28)) := (Below.refl _ _).alloc (Nat.le_refl _) _
              have PZ : Hid (Box3 (v6.alloc (.cells #[.slice none 0 0, .slice none 0 0, .slice none 0 0] 28)) v6.heap.size 28 (.slice none 0 0) (.slice none 0 0) (.slice none 0 0)) := Box3.made _ _ _ _ _
              have LA : Hid (w.heap.size ≤ v6.heap.size) := A1.out.size
              have LRA : Hid (w.heap.size < v6.heap.size) := H.1.lt
              have LRB : Hid (w.heap.size + 1 < v6.heap.size) := H.2.lt
              replace H : (Box3 (v6.alloc (.cells #[.slice none 0 0, .slice none 0 0, .slice none 0 0] 28)) w.heap.size 51 (.slice a0 d.nb c0) (.slice a1 d.nc c1) (.slice a2 d.ns c2)) ∧ (Box5 (v6.alloc (.cells #[.slice none 0 0, .slice none 0 0, .slice none 0 0] 28)) (w.heap.size + 1) 52 (.int .i64 a.kd) (.int .i64 a.x) (.string a.s) (.slice ak a.nk ck) (.int .i64 a.t)) := ⟨H.1.below hb, H.2.below hb⟩
              refine hK.out _ _ H (fun _ => ?_)
              clear hK KK
              change wpAnyH _ _ _ _ _ _ _ { tmps := #[_, _, _, _, _, _, _, _, _, _, _, _, _, _, _, _, _, _, _, _, _, _, _, _, _, _, _, _, _, _, _, _, _, _, _, _, _, _, _, _, _, _, _, _, _, _, _, _, _, _, _, _, _, _, _, _, _, _, _, _, _, _, _, _, _, _, _, _, _, _, _, _, _, _, _, _, _, _, _, _, _, _, _, _, _, _, _, _, _, _, _, _, _, _, _, _, _, _, _, _, _, _, _, _, _, _, _, _, _, _, _, _, _, _, _, _, _, _, _], defers := _ } _
              generalize (v6.alloc (.cells #[.slice none 0 0, .slice none 0 0, .slice none 0 0] 28)) = v10 at *
              replace A1 : Hid (Below w.heap.size w v10) := A1.out.trans (hb.mono A1.out.size)
              replace V1 : Hid (RowD v10 d (some ⟨f0, 0, none⟩) (some ⟨f1, 0, none⟩) (some ⟨f2, 0, none⟩) f0 f1 f2) := V1.out.below hb
              replace V2 : Hid ((v10).rowIs fb 4 a.nk (fun i => .bool (a.K i))) := World.rowIs.of_block V2.out (hb.block _ (World.rowIs.lt V2.out))
              clear hb
              obtain ⟨pb, hpb⟩ : ∃ bx, bx = v6.heap.size := ⟨_, rfl⟩
              rw [← hpb] at LA PZ LRA LRB ⊢
              clear hpb
              refine wpAnyH_ready (rs := [4]) (by kernel_rfl) (by simp) ?_
              refine (AllReadyH.cons rfl (fun KK hK => ?_) AllReadyH.nil)
              go_simp
              have PBL : Hid (pb < v10.heap.size) := PZ.out.lt
              refine (SO.out _ _ _ _ _ V1.out.diskV (Bools.ofRow V2.out)).mono ?_
              rintro e v11 ⟨⟨sa0, sa1, sa2, sc0, sc1, sc2, sg0, sg1, sg2, rfl, rd, hi0, hi1, hi2⟩, hb⟩
              have GR : Hid (GeD k sg0 sg1 sg2 (pb + 1)) := GeD.mono ⟨hi0, hi1, hi2⟩ PBL.out
              replace A1 : Hid (Below w.heap.size w v11) := A1.out.trans (hb.mono A1.out.size)
              replace V1 : Hid (RowD v11 d (some ⟨f0, 0, none⟩) (some ⟨f1, 0, none⟩) (some ⟨f2, 0, none⟩) f0 f1 f2) := V1.out.below hb
              replace V2 : Hid ((v11).rowIs fb 4 a.nk (fun i => .bool (a.K i))) := World.rowIs.of_block V2.out (hb.block _ (World.rowIs.lt V2.out))
              replace PZ : Hid (Box3 v11 pb 28 (.slice none 0 0) (.slice none 0 0) (.slice none 0 0)) := PZ.out.below hb
              replace H : (Box3 v11 w.heap.size 51 (.slice a0 d.nb c0) (.slice a1 d.nc c1) (.slice a2 d.ns c2)) ∧ (Box5 v11 (w.heap.size + 1) 52 (.int .i64 a.kd) (.int .i64 a.x) (.string a.s) (.slice ak a.nk ck) (.int .i64 a.t)) := ⟨H.1.below hb, H.2.below hb⟩
              have VS : Hid (RowD v11 k sa0 sa1 sa2 sg0 sg1 sg2) := rd
              clear hb rd PBL
              clear hi0 hi1 hi2
              clear V1 V2
              refine hK.out _ _ H (fun _ => ?_)
              clear hK KK
              change wpAnyH _ _ _ _ _ _ _ { tmps := #[_, _, _, _, _, _, _, _, _, _, _, _, _, _, _, _, _, _, _, _, _, _, _, _, _, _, _, _, _, _, _, _, _, _, _, _, _, _, _, _, _, _, _, _, _, _, _, _, _, _, _, _, _, _, _, _, _, _, _, _, _, _, _, _, _, _, _, _, _, _, _, _, _, _, _, _, _, _, _, _, _, _, _, _, _, _, _, _, _, _, _, _, _, _, _, _, _, _, _, _, _, _, _, _, _, _, _, _, _, _, _, _, _, _, _, _, _, _, _], defers := _ } _
              refine wpAnyH_take (i := 5) (v := .tuple #[.agg #[.slice sa0 k.nb sc0, .slice sa1 k.nc sc1, .slice sa2 k.ns sc2], .int .i64 code]) rfl (by kernel_rfl) (by kernel_rfl) (by kernel_rfl) (fun _ _ _ h => h) (Or.inl ⟨by rfl, ?_⟩) H ?_
              · intro w' hSw; go_simp
              change wpAnyH _ _ _ _ _ _ _ { tmps := #[_, _, _, _, _, _, _, _, _, _, _, _, _, _, _, _, _, _, _, _, _, _, _, _, _, _, _, _, _, _, _, _, _, _, _, _, _, _, _, _, _, _, _, _, _, _, _, _, _, _, _, _, _, _, _, _, _, _, _, _, _, _, _, _, _, _, _, _, _, _, _, _, _, _, _, _, _, _, _, _, _, _, _, _, _, _, _, _, _, _, _, _, _, _, _, _, _, _, _, _, _, _, _, _, _, _, _, _, _, _, _, _, _, _, _, _, _, _, _], defers := _ } _
              refine wpAnyH_take (i := 6) (v := .agg #[.slice sa0 k.nb sc0, .slice sa1 k.nc sc1, .slice sa2 k.ns sc2]) rfl (by kernel_rfl) (by kernel_rfl) (by kernel_rfl) (fun _ _ _ h => h) (Or.inl ⟨by rfl, ?_⟩) H ?_
              · intro w' hSw; go_simp
              change wpAnyH _ _ _ _ _ _ _ { tmps := #[_, _, _, _, _, _, _, _, _, _, _, _, _, _, _, _, _, _, _, _, _, _, _, _, _, _, _, _, _, _, _, _, _, _, _, _, _, _, _, _, _, _, _, _, _, _, _, _, _, _, _, _, _, _, _, _, _, _, _, _, _, _, _, _, _, _, _, _, _, _, _, _, _, _, _, _, _, _, _, _, _, _, _, _, _, _, _, _, _, _, _, _, _, _, _, _, _, _, _, _, _, _, _, _, _, _, _, _, _, _, _, _, _, _, _, _, _, _, _], defers := _ } _
              refine wpAnyH_take (i := 7) (v := .int .i64 code) rfl (by kernel_rfl) (by kernel_rfl) (by kernel_rfl) (fun _ _ _ h => h) (Or.inl ⟨by rfl, ?_⟩) H ?_
              · intro w' hSw; go_simp
              change wpAnyH _ _ _ _ _ _ _ { tmps := #[_, _, _, _, _, _, _, _, _, _, _, _, _, _, _, _, _, _, _, _, _, _, _, _, _, _, _, _, _, _, _, _, _, _, _, _, _, _, _, _, _, _, _, _, _, _, _, _, _, _, _, _, _, _, _, _, _, _, _, _, _, _, _, _, _, _, _, _, _, _, _, _, _, _, _, _, _, _, _, _, _, _, _, _, _, _, _, _, _, _, _, _, _, _, _, _, _, _, _, _, _, _, _, _, _, _, _, _, _, _, _, _, _, _, _, _, _, _, _], defers := _ } _
              refine wpAnyH_ready (rs := [9]) (by kernel_rfl) (by simp) ?_
              refine AllReadyH.cons rfl (fun KK hK => ?_) AllReadyH.nil
              rw [if_pos (by rfl)]
              refine wp_store_mid 28 (.tmp 6) (.tmp 33) rfl pb 0 #[.slice sa0 k.nb sc0, .slice sa1 k.nc sc1, .slice sa2 k.ns sc2] rfl rfl PZ.out.there Tryd.sizeDk (oneSl3 _ _ _ _ _ _ _ _ _) ?_
              have ho : OnlyB pb v11 (v11.setCells pb 0 [.slice sa0 k.nb sc0, .slice sa1 k.nc sc1, .slice sa2 k.ns sc2]) := OnlyB.stored3 _ _ _ _ _
              have hk := ho.keepR
              have XN : Hid (Box3 (v11.setCells pb 0 [.slice sa0 k.nb sc0, .slice sa1 k.nc sc1, .slice sa2 k.ns sc2]) pb 28 (.slice sa0 k.nb sc0) (.slice sa1 k.nc sc1) (.slice sa2 k.ns sc2)) := PZ.out.stored _ _ _
              have sz1 : v11.heap.size ≤ (v11.setCells pb 0 [.slice sa0 k.nb sc0, .slice sa1 k.nc sc1, .slice sa2 k.ns sc2]).heap.size := ho.size
              replace A1 : Hid (Below w.heap.size w (v11.setCells pb 0 [.slice sa0 k.nb sc0, .slice sa1 k.nc sc1, .slice sa2 k.ns sc2])) := A1.out.trans (ho.toBelow LA.out A1.out.size)
              replace VS : Hid (RowD (v11.setCells pb 0 [.slice sa0 k.nb sc0, .slice sa1 k.nc sc1, .slice sa2 k.ns sc2]) k sa0 sa1 sa2 sg0 sg1 sg2) := VS.out.keepR hk (.inr GR.out)
              replace H : (Box3 (v11.setCells pb 0 [.slice sa0 k.nb sc0, .slice sa1 k.nc sc1, .slice sa2 k.ns sc2]) w.heap.size 51 (.slice a0 d.nb c0) (.slice a1 d.nc c1) (.slice a2 d.ns c2)) ∧ (Box5 (v11.setCells pb 0 [.slice sa0 k.nb sc0, .slice sa1 k.nc sc1, .slice sa2 k.ns sc2]) (w.heap.size + 1) 52 (.int .i64 a.kd) (.int .i64 a.x) (.string a.s) (.slice ak a.nk ck) (.int .i64 a.t)) := ⟨H.1.keepR hk (.inl LRA.out), H.2.keepR hk (.inl LRB.out)⟩
              refine hK.out _ _ H (fun _ => ?_)
              clear hK KK PZ ho hk sz1
              generalize (v11.setCells pb 0 [.slice sa0 k.nb sc0, .slice sa1 k.nc sc1, .slice sa2 k.ns sc2]) = v12 at *
              change wpAnyH _ _ _ _ _ _ _ { tmps := #[_, _, _, _, _, _, _, _, _, _, _, _, _, _, _, _, _, _, _, _, _, _, _, _, _, _, _, _, _, _, _, _, _, _, _, _, _, _, _, _, _, _, _, _, _, _, _, _, _, _, _, _, _, _, _, _, _, _, _, _, _, _, _, _, _, _, _, _, _, _, _, _, _, _, _, _, _, _, _, _, _, _, _, _, _, _, _, _, _, _, _, _, _, _, _, _, _, _, _, _, _, _, _, _, _, _, _, _, _, _, _, _, _, _, _, _, _, _, _], defers := _ } _
              refine wpAnyH_take (i := 10) (v := .int .i64 code) rfl (by kernel_rfl) (by kernel_rfl) (by kernel_rfl) (fun _ _ _ h => h) (Or.inl ⟨by rfl, ?_⟩) H ?_
              · intro w' hSw; go_simp
              change wpAnyH _ _ _ _ _ _ _ { tmps := #[_, _, _, _, _, _, _, _, _, _, _, _, _, _, _, _, _, _, _, _, _, _, _, _, _, _, _, _, _, _, _, _, _, _, _, _, _, _, _, _, _, _, _, _, _, _, _, _, _, _, _, _, _, _, _, _, _, _, _, _, _, _, _, _, _, _, _, _, _, _, _, _, _, _, _, _, _, _, _, _, _, _, _, _, _, _, _, _, _, _, _, _, _, _, _, _, _, _, _, _, _, _, _, _, _, _, _, _, _, _, _, _, _, _, _, _, _, _, _], defers := _ } _
              refine wpAnyH_done (by kernel_rfl) ?_ _
              refine NoPanic.normal ?_
              change Exit.then _ _ Exit.normal { tmps := #[_, _, _, _, _, _, _, _, _, _, _, _, _, _, _, _, _, _, _, _, _, _, _, _, _, _, _, _, _, _, _, _, _, _, _, _, _, _, _, _, _, _, _, _, _, _, _, _, _, _, _, _, _, _, _, _, _, _, _, _, _, _, _, _, _, _, _, _, _, _, _, _, _, _, _, _, _, _, _, _, _, _, _, _, _, _, _, _, _, _, _, _, _, _, _, _, _, _, _, _, _, _, _, _, _, _, _, _, _, _, _, _, _, _, _, _, _, _, _], defers := _ } _
              go_wp2_with fail
              go_meet
              exact ⟨pb, sa0, sa1, sa2, sc0, sc1, sc2, sg0, sg1, sg2, rfl, rfl, XN.out, VS.out, H.1, H.2, A1.out⟩
          · skip
            go_simp
            have hb : Below v5.heap.size v5 (v5.alloc (.cells #[.slice none 0 0, .slice none 0 0, .slice none 0 0] 28)) := (Below.refl _ _).alloc (Nat.le_refl _) _
            have PZ : Hid (Box3 (v5.alloc (.cells #[.slice none 0 0, .slice none 0 0, .slice none 0 0] 28)) v5.heap.size 28 (.slice none 0 0) (.slice none 0 0) (.slice none 0 0)) := Box3.made _ _ _ _ _
            have LA : Hid (w.heap.size ≤ v5.heap.size) := A1.out.size
            have LRA : Hid (w.heap.size < v5.heap.size) := H.1.lt
            have LRB : Hid (w.heap.size + 1 < v5.heap.size) := H.2.lt
            replace H : (Box3 (v5.alloc (.cells #[.slice none 0 0, .slice none 0 0, .slice none 0 0] 28)) w.heap.size 51 (.slice a0 d.nb c0) (.slice a1 d.nc c1) (.slice a2 d.ns c2)) ∧ (Box5 (v5.alloc (.cells #[.slice none 0 0, .slice none 0 0, .slice none 0 0] 28)) (w.heap.size + 1) 52 (.int .i64 a.kd) (.int .i64 a.x) (.string a.s) (.slice ak a.nk ck) (.int .i64 a.t)) := ⟨H.1.below hb, H.2.below hb⟩
            refine hK.out _ _ H (fun _ => ?_)
            clear hK KK
            change wpAnyH _ _ _ _ _ _ _ { tmps := #[_, _, _, _, _, _, _, _, _, _, _, _, _, _, _, _, _, _, _, _, _, _, _, _, _, _, _, _, _, _, _, _, _, _, _, _, _, _, _, _, _, _, _, _, _, _, _, _, _, _, _, _, _, _, _, _, _, _, _, _, _, _, _, _, _, _, _, _, _, _, _, _, _, _, _, _, _, _, _, _, _, _, _, _, _, _, _, _, _, _, _, _, _, _, _, _, _, _, _, _, _, _, _, _, _, _, _, _, _, _, _, _, _, _, _, _, _, _, _], defers := _ } _
            generalize (v5.alloc (.cells #[.slice none 0 0, .slice none 0 0, .slice none 0 0] 28)) = v13 at *
            replace A1 : Hid (Below w.heap.size w v13) := A1.out.trans (hb.mono A1.out.size)
            replace V1 : Hid (RowD v13 d (some ⟨f0, 0, none⟩) (some ⟨f1, 0, none⟩) (some ⟨f2, 0, none⟩) f0 f1 f2) := V1.out.below hb
            clear hb
            obtain ⟨pb, hpb⟩ : ∃ bx, bx = v5.heap.size := ⟨_, rfl⟩
            rw [← hpb] at LA PZ LRA LRB ⊢
            clear hpb
            refine wpAnyH_ready (rs := [3]) (by kernel_rfl) (by simp) ?_
            refine (AllReadyH.cons rfl (fun KK hK => ?_) AllReadyH.nil)
            go_simp
            have PBL : Hid (pb < v13.heap.size) := PZ.out.lt
            refine (TC.out _ (HY.out.below A1.out)).mono ?_
            rintro e v14 ⟨⟨fb, rfl, rd, gd⟩, hb⟩
            replace A1 : Hid (Below w.heap.size w v14) := A1.out.trans (hb.mono A1.out.size)
            replace V1 : Hid (RowD v14 d (some ⟨f0, 0, none⟩) (some ⟨f1, 0, none⟩) (some ⟨f2, 0, none⟩) f0 f1 f2) := V1.out.below hb
            replace PZ : Hid (Box3 v14 pb 28 (.slice none 0 0) (.slice none 0 0) (.slice none 0 0)) := PZ.out.below hb
            replace H : (Box3 v14 w.heap.size 51 (.slice a0 d.nb c0) (.slice a1 d.nc c1) (.slice a2 d.ns c2)) ∧ (Box5 v14 (w.heap.size + 1) 52 (.int .i64 a.kd) (.int .i64 a.x) (.string a.s) (.slice ak a.nk ck) (.int .i64 a.t)) := ⟨H.1.below hb, H.2.below hb⟩
            have V2 : Hid ((v14).rowIs fb 4 a.nk (fun i => .bool (a.K i))) := rd
            clear hb rd gd PBL
            refine hK.out _ _ H (fun _ => ?_)
            clear hK KK
            change wpAnyH _ _ _ _ _ _ _ { tmps := #[_, _, _, _, _, _, _, _, _, _, _, _, _, _, _, _, _, _, _, _, _, _, _, _, _, _, _, _, _, _, _, _, _, _, _, _, _, _, _, _, _, _, _, _, _, _, _, _, _, _, _, _, _, _, _, _, _, _, _, _, _, _, _, _, _, _, _, _, _, _, _, _, _, _, _, _, _, _, _, _, _, _, _, _, _, _, _, _, _, _, _, _, _, _, _, _, _, _, _, _, _, _, _, _, _, _, _, _, _, _, _, _, _, _, _, _, _, _, _], defers := _ } _
            refine wpAnyH_ready (rs := [4]) (by kernel_rfl) (by simp) ?_
            refine (AllReadyH.cons rfl (fun KK hK => ?_) AllReadyH.nil)
            go_simp
            have PBL : Hid (pb < v14.heap.size) := PZ.out.lt
            refine (SO.out _ _ _ _ _ V1.out.diskV (Bools.ofRow V2.out)).mono ?_
            rintro e v15 ⟨⟨sa0, sa1, sa2, sc0, sc1, sc2, sg0, sg1, sg2, rfl, rd, hi0, hi1, hi2⟩, hb⟩
            have GR : Hid (GeD k sg0 sg1 sg2 (pb + 1)) := GeD.mono ⟨hi0, hi1, hi2⟩ PBL.out
            replace A1 : Hid (Below w.heap.size w v15) := A1.out.trans (hb.mono A1.out.size)
            replace V1 : Hid (RowD v15 d (some ⟨f0, 0, none⟩) (some ⟨f1, 0, none⟩) (some ⟨f2, 0, none⟩) f0 f1 f2) := V1.out.below hb
            replace PZ : Hid (Box3 v15 pb 28 (.slice none 0 0) (.slice none 0 0) (.slice none 0 0)) := PZ.out.below hb
            replace V2 : Hid ((v15).rowIs fb 4 a.nk (fun i => .bool (a.K i))) := World.rowIs.of_block V2.out (hb.block _ (World.rowIs.lt V2.out))
            replace H : (Box3 v15 w.heap.size 51 (.slice a0 d.nb c0) (.slice a1 d.nc c1) (.slice a2 d.ns c2)) ∧ (Box5 v15 (w.heap.size + 1) 52 (.int .i64 a.kd) (.int .i64 a.x) (.string a.s) (.slice ak a.nk ck) (.int .i64 a.t)) := ⟨H.1.below hb, H.2.below hb⟩
            have VS : Hid (RowD v15 k sa0 sa1 sa2 sg0 sg1 sg2) := rd
            clear hb rd PBL
            clear hi0 hi1 hi2
            clear V1 V2
            refine hK.out _ _ H (fun _ => ?_)
            clear hK KK
            change wpAnyH _ _ _ _ _ _ _ { tmps := #[_, _, _, _, _, _, _, _, _, _, _, _, _, _, _, _, _, _, _, _, _, _, _, _, _, _, _, _, _, _, _, _, _, _, _, _, _, _, _, _, _, _, _, _, _, _, _, _, _, _, _, _, _, _, _, _, _, _, _, _, _, _, _, _, _, _, _, _, _, _, _, _, _, _, _, _, _, _, _, _, _, _, _, _, _, _, _, _, _, _, _, _, _, _, _, _, _, _, _, _, _, _, _, _, _, _, _, _, _, _, _, _, _, _, _, _, _, _, _], defers := _ } _
            refine wpAnyH_take (i := 5) (v := .tuple #[.agg #[.slice sa0 k.nb sc0, .slice sa1 k.nc sc1, .slice sa2 k.ns sc2], .int .i64 code]) rfl (by kernel_rfl) (by kernel_rfl) (by kernel_rfl) (fun _ _ _ h => h) (Or.inl ⟨by rfl, ?_⟩) H ?_
            · intro w' hSw; go_simp
            change wpAnyH _ _ _ _ _ _ _ { tmps := #[_, _, _, _, _, _, _, _, _, _, _, _, _, _, _, _, _, _, _, _, _, _, _, _, _, _, _, _, _, _, _, _, _, _, _, _, _, _, _, _, _, _, _, _, _, _, _, _, _, _, _, _, _, _, _, _, _, _, _, _, _, _, _, _, _, _, _, _, _, _, _, _, _, _, _, _, _, _, _, _, _, _, _, _, _, _, _, _, _, _, _, _, _, _, _, _, _, _, _, _, _, _, _, _, _, _, _, _, _, _, _, _, _, _, _, _, _, _, _], defers := _ } _
            refine wpAnyH_take (i := 6) (v := .agg #[.slice sa0 k.nb sc0, .slice sa1 k.nc sc1, .slice sa2 k.ns sc2]) rfl (by kernel_rfl) (by kernel_rfl) (by kernel_rfl) (fun _ _ _ h => h) (Or.inl ⟨by rfl, ?_⟩) H ?_
            · intro w' hSw; go_simp
            change wpAnyH _ _ _ _ _ _ _ { tmps := #[_, _, _, _, _, _, _, _, _, _, _, _, _, _, _, _, _, _, _, _, _, _, _, _, _, _, _, _, _, _, _, _, _, _, _, _, _, _, _, _, _, _, _, _, _, _, _, _, _, _, _, _, _, _, _, _, _, _, _, _, _, _, _, _, _, _, _, _, _, _, _, _, _, _, _, _, _, _, _, _, _, _, _, _, _, _, _, _, _, _, _, _, _, _, _, _, _, _, _, _, _, _, _, _, _, _, _, _, _, _, _, _, _, _, _, _, _, _, _], defers := _ } _
            refine wpAnyH_take (i := 7) (v := .int .i64 code) rfl (by kernel_rfl) (by kernel_rfl) (by kernel_rfl) (fun _ _ _ h => h) (Or.inl ⟨by rfl, ?_⟩) H ?_
            · intro w' hSw; go_simp
            change wpAnyH _ _ _ _ _ _ _ { tmps := #[_, _, _, _, _, _, _, _, _, _, _, _, _, _, _, _, _, _, _, _, _, _, _, _, _, _, _, _, _, _, _, _, _, _, _, _, _, _, _, _, _, _, _, _, _, _, _, _, _, _, _, _, _, _, _, _, _, _, _, _, _, _, _, _, _, _, _, _, _, _, _, _, _, _, _, _, _, _, _, _, _, _, _, _, _, _, _, _, _, _, _, _, _, _, _, _, _, _, _, _, _, _, _, _, _, _, _, _, _, _, _, _, _, _, _, _, _, _, _], defers := _ } _
            refine wpAnyH_ready (rs := [9]) (by kernel_rfl) (by simp) ?_
            refine AllReadyH.cons rfl (fun KK hK => ?_) AllReadyH.nil
            rw [if_pos (by rfl)]
            refine wp_store_mid 28 (.tmp 6) (.tmp 33) rfl pb 0 #[.slice sa0 k.nb sc0, .slice sa1 k.nc sc1, .slice sa2 k.ns sc2] rfl rfl PZ.out.there Tryd.sizeDk (oneSl3 _ _ _ _ _ _ _ _ _) ?_
            have ho : OnlyB pb v15 (v15.setCells pb 0 [.slice sa0 k.nb sc0, .slice sa1 k.nc sc1, .slice sa2 k.ns sc2]) := OnlyB.stored3 _ _ _ _ _
            have hk := ho.keepR
            have XN : Hid (Box3 (v15.setCells pb 0 [.slice sa0 k.nb sc0, .slice sa1 k.nc sc1, .slice sa2 k.ns sc2]) pb 28 (.slice sa0 k.nb sc0) (.slice sa1 k.nc sc1) (.slice sa2 k.ns sc2)) := PZ.out.stored _ _ _
            have sz1 : v15.heap.size ≤ (v15.setCells pb 0 [.slice sa0 k.nb sc0, .slice sa1 k.nc sc1, .slice sa2 k.ns sc2]).heap.size := ho.size
            replace A1 : Hid (Below w.heap.size w (v15.setCells pb 0 [.slice sa0 k.nb sc0, .slice sa1 k.nc sc1, .slice sa2 k.ns sc2])) := A1.out.trans (ho.toBelow LA.out A1.out.size)
            replace VS : Hid (RowD (v15.setCells pb 0 [.slice sa0 k.nb sc0, .slice sa1 k.nc sc1, .slice sa2 k.ns sc2]) k sa0 sa1 sa2 sg0 sg1 sg2) := VS.out.keepR hk (.inr GR.out)
            replace H : (Box3 (v15.setCells pb 0 [.slice sa0 k.nb sc0, .slice sa1 k.nc sc1, .slice sa2 k.ns sc2]) w.heap.size 51 (.slice a0 d.nb c0) (.slice a1 d.nc c1) (.slice a2 d.ns c2)) ∧ (Box5 (v15.setCells pb 0 [.slice sa0 k.nb sc0, .slice sa1 k.nc sc1, .slice sa2 k.ns sc2]) (w.heap.size + 1) 52 (.int .i64 a.kd) (.int .i64 a.x) (.string a.s) (.slice ak a.nk ck) (.int .i64 a.t)) := ⟨H.1.keepR hk (.inl LRA.out), H.2.keepR hk (.inl LRB.out)⟩
            refine hK.out _ _ H (fun _ => ?_)
            clear hK KK PZ ho hk sz1
            generalize (v15.setCells pb 0 [.slice sa0 k.nb sc0, .slice sa1 k.nc sc1, .slice sa2 k.ns sc2]) = v16 at *
            change wpAnyH _ _ _ _ _ _ _ { tmps := #[_, _, _, _, _, _, _, _, _, _, _, _, _, _, _, _, _, _, _, _, _, _, _, _, _, _, _, _, _, _, _, _, _, _, _, _, _, _, _, _, _, _, _, _, _, _, _, _, _, _, _, _, _, _, _, _, _, _, _, _, _, _, _, _, _, _, _, _, _, _, _, _, _, _, _, _, _, _, _, _, _, _, _, _, _, _, _, _, _, _, _, _, _, _, _, _, _, _, _, _, _, _, _, _, _, _, _, _, _, _, _, _, _, _, _, _, _, _, _], defers := _ } _
            refine wpAnyH_take (i := 10) (v := .int .i64 code) rfl (by kernel_rfl) (by kernel_rfl) (by kernel_rfl) (fun _ _ _ h => h) (Or.inl ⟨by rfl, ?_⟩) H ?_
            · intro w' hSw; go_simp
            change wpAnyH _ _ _ _ _ _ _ { tmps := #[_, _, _, _, _, _, _, _, _, _, _, _, _, _, _, _, _, _, _, _, _, _, _, _, _, _, _, _, _, _, _, _, _, _, _, _, _, _, _, _, _, _, _, _, _, _, _, _, _, _, _, _, _, _, _, _, _, _, _, _, _, _, _, _, _, _, _, _, _, _, _, _, _, _, _, _, _, _, _, _, _, _, _, _, _, _, _, _, _, _, _, _, _, _, _, _, _, _, _, _, _, _, _, _, _, _, _, _, _, _, _, _, _, _, _, _, _, _, _], defers := _ } _
            refine wpAnyH_done (by kernel_rfl) ?_ _
            refine NoPanic.normal ?_
            change Exit.then _ _ Exit.normal { tmps := #[_, _, _, _, _, _, _, _, _, _, _, _, _, _, _, _, _, _, _, _, _, _, _, _, _, _, _, _, _, _, _, _, _, _, _, _, _, _, _, _, _, _, _, _, _, _, _, _, _, _, _, _, _, _, _, _, _, _, _, _, _, _, _, _, _, _, _, _, _, _, _, _, _, _, _, _, _, _, _, _, _, _, _, _, _, _, _, _, _, _, _, _, _, _, _, _, _, _, _, _, _, _, _, _, _, _, _, _, _, _, _, _, _, _, _, _, _, _, _], defers := _ } _
            go_wp2_with fail
            go_meet
            exact ⟨pb, sa0, sa1, sa2, sc0, sc1, sc2, sg0, sg1, sg2, rfl, rfl, XN.out, VS.out, H.1, H.2, A1.out⟩
        · skip
          go_simp
          have hb : Below v4.heap.size v4 (v4.alloc (.cells #[.slice none 0 0, .slice none 0 0, .slice none 0 0] 28)) := (Below.refl _ _).alloc (Nat.le_refl _) _
          have PZ : Hid (Box3 (v4.alloc (.cells #[.slice none 0 0, .slice none 0 0, .slice none 0 0] 28)) v4.heap.size 28 (.slice none 0 0) (.slice none 0 0) (.slice none 0 0)) := Box3.made _ _ _ _ _
          have LA : Hid (w.heap.size ≤ v4.heap.size) := A1.out.size
          have LRA : Hid (w.heap.size < v4.heap.size) := H.1.lt
          have LRB : Hid (w.heap.size + 1 < v4.heap.size) := H.2.lt
          replace H : (Box3 (v4.alloc (.cells #[.slice none 0 0, .slice none 0 0, .slice none 0 0] 28)) w.heap.size 51 (.slice a0 d.nb c0) (.slice a1 d.nc c1) (.slice a2 d.ns c2)) ∧ (Box5 (v4.alloc (.cells #[.slice none 0 0, .slice none 0 0, .slice none 0 0] 28)) (w.heap.size + 1) 52 (.int .i64 a.kd) (.int .i64 a.x) (.string a.s) (.slice ak a.nk ck) (.int .i64 a.t)) := ⟨H.1.below hb, H.2.below hb⟩
          refine hK.out _ _ H (fun _ => ?_)
          clear hK KK
          change wpAnyH _ _ _ _ _ _ _ { tmps := #[_, _, _, _, _, _, _, _, _, _, _, _, _, _, _, _, _, _, _, _, _, _, _, _, _, _, _, _, _, _, _, _, _, _, _, _, _, _, _, _, _, _, _, _, _, _, _, _, _, _, _, _, _, _, _, _, _, _, _, _, _, _, _, _, _, _, _, _, _, _, _, _, _, _, _, _, _, _, _, _, _, _, _, _, _, _, _, _, _, _, _, _, _, _, _, _, _, _, _, _, _, _, _, _, _, _, _, _, _, _, _, _, _, _, _, _, _, _, _], defers := _ } _
          generalize (v4.alloc (.cells #[.slice none 0 0, .slice none 0 0, .slice none 0 0] 28)) = v17 at *
          replace A1 : Hid (Below w.heap.size w v17) := A1.out.trans (hb.mono A1.out.size)
          clear hb
          obtain ⟨pb, hpb⟩ : ∃ bx, bx = v4.heap.size := ⟨_, rfl⟩
          rw [← hpb] at LA PZ LRA LRB ⊢
          clear hpb
          refine wpAnyH_ready (rs := [1]) (by kernel_rfl) (by simp) ?_
          refine (AllReadyH.cons rfl (fun KK hK => ?_) AllReadyH.nil)
          go_simp
          have PBL : Hid (pb < v17.heap.size) := PZ.out.lt
          refine (TD.out _ (HX.out.below A1.out)).mono ?_
          rintro e v18 ⟨⟨f0, f1, f2, rfl, rd, gd⟩, hb⟩
          replace A1 : Hid (Below w.heap.size w v18) := A1.out.trans (hb.mono A1.out.size)
          replace PZ : Hid (Box3 v18 pb 28 (.slice none 0 0) (.slice none 0 0) (.slice none 0 0)) := PZ.out.below hb
          replace H : (Box3 v18 w.heap.size 51 (.slice a0 d.nb c0) (.slice a1 d.nc c1) (.slice a2 d.ns c2)) ∧ (Box5 v18 (w.heap.size + 1) 52 (.int .i64 a.kd) (.int .i64 a.x) (.string a.s) (.slice ak a.nk ck) (.int .i64 a.t)) := ⟨H.1.below hb, H.2.below hb⟩
          have V1 : Hid (RowD v18 d (some ⟨f0, 0, none⟩) (some ⟨f1, 0, none⟩) (some ⟨f2, 0, none⟩) f0 f1 f2) := rd
          clear hb rd gd PBL
          refine hK.out _ _ H (fun _ => ?_)
          clear hK KK
          change wpAnyH _ _ _ _ _ _ _ { tmps := #[_, _, _, _, _, _, _, _, _, _, _, _, _, _, _, _, _, _, _, _, _, _, _, _, _, _, _, _, _, _, _, _, _, _, _, _, _, _, _, _, _, _, _, _, _, _, _, _, _, _, _, _, _, _, _, _, _, _, _, _, _, _, _, _, _, _, _, _, _, _, _, _, _, _, _, _, _, _, _, _, _, _, _, _, _, _, _, _, _, _, _, _, _, _, _, _, _, _, _, _, _, _, _, _, _, _, _, _, _, _, _, _, _, _, _, _, _, _, _], defers := _ } _
          refine wpAnyH_ready (rs := [3]) (by kernel_rfl) (by simp) ?_
          refine (AllReadyH.cons rfl (fun KK hK => ?_) AllReadyH.nil)
          go_simp
          have PBL : Hid (pb < v18.heap.size) := PZ.out.lt
          refine (TC.out _ (HY.out.below A1.out)).mono ?_
          rintro e v19 ⟨⟨fb, rfl, rd, gd⟩, hb⟩
          replace A1 : Hid (Below w.heap.size w v19) := A1.out.trans (hb.mono A1.out.size)
          replace PZ : Hid (Box3 v19 pb 28 (.slice none 0 0) (.slice none 0 0) (.slice none 0 0)) := PZ.out.below hb
          replace V1 : Hid (RowD v19 d (some ⟨f0, 0, none⟩) (some ⟨f1, 0, none⟩) (some ⟨f2, 0, none⟩) f0 f1 f2) := V1.out.below hb
          replace H : (Box3 v19 w.heap.size 51 (.slice a0 d.nb c0) (.slice a1 d.nc c1) (.slice a2 d.ns c2)) ∧ (Box5 v19 (w.heap.size + 1) 52 (.int .i64 a.kd) (.int .i64 a.x) (.string a.s) (.slice ak a.nk ck) (.int .i64 a.t)) := ⟨H.1.below hb, H.2.below hb⟩
          have V2 : Hid ((v19).rowIs fb 4 a.nk (fun i => .bool (a.K i))) := rd
          clear hb rd gd PBL
          refine hK.out _ _ H (fun _ => ?_)
          clear hK KK
          change wpAnyH _ _ _ _ _ _ _ { tmps := #[_, _, _, _, _, _, _, _, _, _, _, _, _, _, _, _, _, _, _, _, _, _, _, _, _, _, _, _, _, _, _, _, _, _, _, _, _, _, _, _, _, _, _, _, _, _, _, _, _, _, _, _, _, _, _, _, _, _, _, _, _, _, _, _, _, _, _, _, _, _, _, _, _, _, _, _, _, _, _, _, _, _, _, _, _, _, _, _, _, _, _, _, _, _, _, _, _, _, _, _, _, _, _, _, _, _, _, _, _, _, _, _, _, _, _, _, _, _, _], defers := _ } _
          refine wpAnyH_ready (rs := [4]) (by kernel_rfl) (by simp) ?_
          refine (AllReadyH.cons rfl (fun KK hK => ?_) AllReadyH.nil)
          go_simp
          have PBL : Hid (pb < v19.heap.size) := PZ.out.lt
          refine (SO.out _ _ _ _ _ V1.out.diskV (Bools.ofRow V2.out)).mono ?_
          rintro e v20 ⟨⟨sa0, sa1, sa2, sc0, sc1, sc2, sg0, sg1, sg2, rfl, rd, hi0, hi1, hi2⟩, hb⟩
          have GR : Hid (GeD k sg0 sg1 sg2 (pb + 1)) := GeD.mono ⟨hi0, hi1, hi2⟩ PBL.out
          replace A1 : Hid (Below w.heap.size w v20) := A1.out.trans (hb.mono A1.out.size)
          replace PZ : Hid (Box3 v20 pb 28 (.slice none 0 0) (.slice none 0 0) (.slice none 0 0)) := PZ.out.below hb
          replace V1 : Hid (RowD v20 d (some ⟨f0, 0, none⟩) (some ⟨f1, 0, none⟩) (some ⟨f2, 0, none⟩) f0 f1 f2) := V1.out.below hb
          replace V2 : Hid ((v20).rowIs fb 4 a.nk (fun i => .bool (a.K i))) := World.rowIs.of_block V2.out (hb.block _ (World.rowIs.lt V2.out))
          replace H : (Box3 v20 w.heap.size 51 (.slice a0 d.nb c0) (.slice a1 d.nc c1) (.slice a2 d.ns c2)) ∧ (Box5 v20 (w.heap.size + 1) 52 (.int .i64 a.kd) (.int .i64 a.x) (.string a.s) (.slice ak a.nk ck) (.int .i64 a.t)) := ⟨H.1.below hb, H.2.below hb⟩
          have VS : Hid (RowD v20 k sa0 sa1 sa2 sg0 sg1 sg2) := rd
          clear hb rd PBL
          clear hi0 hi1 hi2
          clear V1 V2
          refine hK.out _ _ H (fun _ => ?_)
          clear hK KK
          change wpAnyH _ _ _ _ _ _ _ { tmps := #[_, _, _, _, _, _, _, _, _, _, _, _, _, _, _, _, _, _, _, _, _, _, _, _, _, _, _, _, _, _, _, _, _, _, _, _, _, _, _, _, _, _, _, _, _, _, _, _, _, _, _, _, _, _, _, _, _, _, _, _, _, _, _, _, _, _, _, _, _, _, _, _, _, _, _, _, _, _, _, _, _, _, _, _, _, _, _, _, _, _, _, _, _, _, _, _, _, _, _, _, _, _, _, _, _, _, _, _, _, _, _, _, _, _, _, _, _, _, _], defers := _ } _
          refine wpAnyH_take (i := 5) (v := .tuple #[.agg #[.slice sa0 k.nb sc0, .slice sa1 k.nc sc1, .slice sa2 k.ns sc2], .int .i64 code]) rfl (by kernel_rfl) (by kernel_rfl) (by kernel_rfl) (fun _ _ _ h => h) (Or.inl ⟨by rfl, ?_⟩) H ?_
          · intro w' hSw; go_simp
          change wpAnyH _ _ _ _ _ _ _ { tmps := #[_, _, _, _, _, _, _, _, _, _, _, _, _, _, _, _, _, _, _, _, _, _, _, _, _, _, _, _, _, _, _, _, _, _, _, _, _, _, _, _, _, _, _, _, _, _, _, _, _, _, _, _, _, _, _, _, _, _, _, _, _, _, _, _, _, _, _, _, _, _, _, _, _, _, _, _, _, _, _, _, _, _, _, _, _, _, _, _, _, _, _, _, _, _, _, _, _, _, _, _, _, _, _, _, _, _, _, _, _, _, _, _, _, _, _, _, _, _, _], defers := _ } _
          refine wpAnyH_take (i := 6) (v := .agg #[.slice sa0 k.nb sc0, .slice sa1 k.nc sc1, .slice sa2 k.ns sc2]) rfl (by kernel_rfl) (by kernel_rfl) (by kernel_rfl) (fun _ _ _ h => h) (Or.inl ⟨by rfl, ?_⟩) H ?_
          · intro w' hSw; go_simp
          change wpAnyH _ _ _ _ _ _ _ { tmps := #[_, _, _, _, _, _, _, _, _, _, _, _, _, _, _, _, _, _, _, _, _, _, _, _, _, _, _, _, _, _, _, _, _, _, _, _, _, _, _, _, _, _, _, _, _, _, _, _, _, _, _, _, _, _, _, _, _, _, _, _, _, _, _, _, _, _, _, _, _, _, _, _, _, _, _, _, _, _, _, _, _, _, _, _, _, _, _, _, _, _, _, _, _, _, _, _, _, _, _, _, _, _, _, _, _, _, _, _, _, _, _, _, _, _, _, _, _, _, _], defers := _ } _
          refine wpAnyH_take (i := 7) (v := .int .i64 code) rfl (by kernel_rfl) (by kernel_rfl) (by kernel_rfl) (fun _ _ _ h => h) (Or.inl ⟨by rfl, ?_⟩) H ?_
          · intro w' hSw; go_simp
          change wpAnyH _ _ _ _ _ _ _ { tmps := #[_, _, _, _, _, _, _, _, _, _, _, _, _, _, _, _, _, _, _, _, _, _, _, _, _, _, _, _, _, _, _, _, _, _, _, _, _, _, _, _, _, _, _, _, _, _, _, _, _, _, _, _, _, _, _, _, _, _, _, _, _, _, _, _, _, _, _, _, _, _, _, _, _, _, _, _, _, _, _, _, _, _, _, _, _, _, _, _, _, _, _, _, _, _, _, _, _, _, _, _, _, _, _, _, _, _, _, _, _, _, _, _, _, _, _, _, _, _, _], defers := _ } _
          refine wpAnyH_ready (rs := [9]) (by kernel_rfl) (by simp) ?_
          refine AllReadyH.cons rfl (fun KK hK => ?_) AllReadyH.nil
          rw [if_pos (by rfl)]
          refine wp_store_mid 28 (.tmp 6) (.tmp 33) rfl pb 0 #[.slice sa0 k.nb sc0, .slice sa1 k.nc sc1, .slice sa2 k.ns sc2] rfl rfl PZ.out.there Tryd.sizeDk (oneSl3 _ _ _ _ _ _ _ _ _) ?_
          have ho : OnlyB pb v20 (v20.setCells pb 0 [.slice sa0 k.nb sc0, .slice sa1 k.nc sc1, .slice sa2 k.ns sc2]) := OnlyB.stored3 _ _ _ _ _
          have hk := ho.keepR
          have XN : Hid (Box3 (v20.setCells pb 0 [.slice sa0 k.nb sc0, .slice sa1 k.nc sc1, .slice sa2 k.ns sc2]) pb 28 (.slice sa0 k.nb sc0) (.slice sa1 k.nc sc1) (.slice sa2 k.ns sc2)) := PZ.out.stored _ _ _
          have sz1 : v20.heap.size ≤ (v20.setCells pb 0 [.slice sa0 k.nb sc0, .slice sa1 k.nc sc1, .slice sa2 k.ns sc2]).heap.size := ho.size
          replace A1 : Hid (Below w.heap.size w (v20.setCells pb 0 [.slice sa0 k.nb sc0, .slice sa1 k.nc sc1, .slice sa2 k.ns sc2])) := A1.out.trans (ho.toBelow LA.out A1.out.size)
          replace VS : Hid (RowD (v20.setCells pb 0 [.slice sa0 k.nb sc0, .slice sa1 k.nc sc1, .slice sa2 k.ns sc2]) k sa0 sa1 sa2 sg0 sg1 sg2) := VS.out.keepR hk (.inr GR.out)
          replace H : (Box3 (v20.setCells pb 0 [.slice sa0 k.nb sc0, .slice sa1 k.nc sc1, .slice sa2 k.ns sc2]) w.heap.size 51 (.slice a0 d.nb c0) (.slice a1 d.nc c1) (.slice a2 d.ns c2)) ∧ (Box5 (v20.setCells pb 0 [.slice sa0 k.nb sc0, .slice sa1 k.nc sc1, .slice sa2 k.ns sc2]) (w.heap.size + 1) 52 (.int .i64 a.kd) (.int .i64 a.x) (.string a.s) (.slice ak a.nk ck) (.int .i64 a.t)) := ⟨H.1.keepR hk (.inl LRA.out), H.2.keepR hk (.inl LRB.out)⟩
          refine hK.out _ _ H (fun _ => ?_)
          clear hK KK PZ ho hk sz1
          generalize (v20.setCells pb 0 [.slice sa0 k.nb sc0, .slice sa1 k.nc sc1, .slice sa2 k.ns sc2]) = v21 at *
          change wpAnyH _ _ _ _ _ _ _ { tmps := #[_, _, _, _, _, _, _, _, _, _, _, _, _, _, _, _, _, _, _, _, _, _, _, _, _, _, _, _, _, _, _, _, _, _, _, _, _, _, _, _, _, _, _, _, _, _, _, _, _, _, _, _, _, _, _, _, _, _, _, _, _, _, _, _, _, _, _, _, _, _, _, _, _, _, _, _, _, _, _, _, _, _, _, _, _, _, _, _, _, _, _, _, _, _, _, _, _, _, _, _, _, _, _, _, _, _, _, _, _, _, _, _, _, _, _, _, _, _, _], defers := _ } _
          refine wpAnyH_take (i := 10) (v := .int .i64 code) rfl (by kernel_rfl) (by kernel_rfl) (by kernel_rfl) (fun _ _ _ h => h) (Or.inl ⟨by rfl, ?_⟩) H ?_
          · intro w' hSw; go_simp
          change wpAnyH _ _ _ _ _ _ _ { tmps := #[_, _, _, _, _, _, _, _, _, _, _, _, _, _, _, _, _, _, _, _, _, _, _, _, _, _, _, _, _, _, _, _, _, _, _, _, _, _, _, _, _, _, _, _, _, _, _, _, _, _, _, _, _, _, _, _, _, _, _, _, _, _, _, _, _, _, _, _, _, _, _, _, _, _, _, _, _, _, _, _, _, _, _, _, _, _, _, _, _, _, _, _, _, _, _, _, _, _, _, _, _, _, _, _, _, _, _, _, _, _, _, _, _, _, _, _, _, _, _], defers := _ } _
          refine wpAnyH_done (by kernel_rfl) ?_ _
          refine NoPanic.normal ?_
          change Exit.then _ _ Exit.normal { tmps := #[_, _, _, _, _, _, _, _, _, _, _, _, _, _, _, _, _, _, _, _, _, _, _, _, _, _, _, _, _, _, _, _, _, _, _, _, _, _, _, _, _, _, _, _, _, _, _, _, _, _, _, _, _, _, _, _, _, _, _, _, _, _, _, _, _, _, _, _, _, _, _, _, _, _, _, _, _, _, _, _, _, _, _, _, _, _, _, _, _, _, _, _, _, _, _, _, _, _, _, _, _, _, _, _, _, _, _, _, _, _, _, _, _, _, _, _, _, _, _], defers := _ } _
          go_wp2_with fail
          go_meet
          exact ⟨pb, sa0, sa1, sa2, sc0, sc1, sc2, sg0, sg1, sg2, rfl, rfl, XN.out, VS.out, H.1, H.2, A1.out⟩
      case rest =>
      obtain ⟨bs, sa0, sa1, sa2, sc0, sc1, sc2, sg0, sg1, sg2, rfl, rfl, xn, rd, fRA, fRB, hb⟩ := hcut
      replace A1 : Hid (Below w.heap.size w wc) := hb
      replace RA : Hid (Box3 wc w.heap.size 51 (.slice a0 d.nb c0) (.slice a1 d.nc c1) (.slice a2 d.ns c2)) := fRA
      replace RB : Hid (Box5 wc (w.heap.size + 1) 52 (.int .i64 a.kd) (.int .i64 a.x) (.string a.s) (.slice ak a.nk ck) (.int .i64 a.t)) := fRB
      have VS : Hid (RowD wc k sa0 sa1 sa2 sg0 sg1 sg2) := rd
      have XS : Hid (Box3 wc bs 28 (.slice sa0 k.nb sc0) (.slice sa1 k.nc sc1) (.slice sa2 k.ns sc2)) := xn
      clear hb rd xn fRA fRB 
      clear SO
      have j0 := RA.out.c0
      have j1 := RA.out.c1
      have j2 := RA.out.c2
      go_wp2_with fail
      clear j0 j1 j2
      obtain ⟨B1, hB1⟩ : ∃ B, B = wc.heap.size := ⟨_, rfl⟩
      have P1 : Hid (LtD k sg0 sg1 sg2 B1 ∧ bs < B1 ∧ w.heap.size + 1 < B1 ∧ w.heap.size ≤ B1) := by rw [hB1]; exact ⟨VS.out.ltD, XS.out.lt, RB.out.lt, A1.out.size⟩
      refine (TD.out _ (HX.out.below A1.out)).mono ?_
      rintro e v23 ⟨⟨x0, x1, x2, rfl, rd, gd⟩, hb⟩
      obtain ⟨B2, hB2⟩ : ∃ B, B = v23.heap.size := ⟨_, rfl⟩
      have P2 : Hid (GeD d x0 x1 x2 B1 ∧ LtD d x0 x1 x2 B2 ∧ B1 ≤ B2) := by rw [hB1, hB2]; exact ⟨gd, rd.ltD, hb.size⟩
      replace A1 : Hid (Below w.heap.size w v23) := A1.out.trans (hb.mono A1.out.size)
      replace RA : Hid (Box3 v23 w.heap.size 51 (.slice a0 d.nb c0) (.slice a1 d.nc c1) (.slice a2 d.ns c2)) := RA.out.below hb
      replace RB : Hid (Box5 v23 (w.heap.size + 1) 52 (.int .i64 a.kd) (.int .i64 a.x) (.string a.s) (.slice ak a.nk ck) (.int .i64 a.t)) := RB.out.below hb
      replace VS : Hid (RowD v23 k sa0 sa1 sa2 sg0 sg1 sg2) := VS.out.below hb
      replace XS : Hid (Box3 v23 bs 28 (.slice sa0 k.nb sc0) (.slice sa1 k.nc sc1) (.slice sa2 k.ns sc2)) := XS.out.below hb
      have VX : Hid (RowD v23 d (some ⟨x0, 0, none⟩) (some ⟨x1, 0, none⟩) (some ⟨x2, 0, none⟩) x0 x1 x2) := rd
      have S2 : Hid (B2 ≤ v23.heap.size) := Nat.le_of_eq hB2
      clear hb rd gd hB1 hB2
      have q0 := RB.out.c0
      have q1 := RB.out.c1
      have q2 := RB.out.c2
      have q3 := RB.out.c3
      have q4 := RB.out.c4
      have hb : Below v23.heap.size v23 (v23.alloc (.cells #[.slice (some ⟨x0, 0, none⟩) d.nb d.nb, .slice (some ⟨x1, 0, none⟩) d.nc d.nc, .slice (some ⟨x2, 0, none⟩) d.ns d.ns] 28)) := (Below.refl _ _).alloc (Nat.le_refl _) _
      have vis0 := (RB.out.below hb).c0
      have vis1 := (RB.out.below hb).c1
      have vis2 := (RB.out.below hb).c2
      have vis3 := (RB.out.below hb).c3
      have vis4 := (RB.out.below hb).c4
      have X0 : Hid (Box3 (v23.alloc (.cells #[.slice (some ⟨x0, 0, none⟩) d.nb d.nb, .slice (some ⟨x1, 0, none⟩) d.nc d.nc, .slice (some ⟨x2, 0, none⟩) d.ns d.ns] 28)) v23.heap.size 28 (.slice (some ⟨x0, 0, none⟩) d.nb d.nb) (.slice (some ⟨x1, 0, none⟩) d.nc d.nc) (.slice (some ⟨x2, 0, none⟩) d.ns d.ns)) := Box3.made _ _ _ _ _
      go_wp2_with fail
      generalize (v23.alloc (.cells #[.slice (some ⟨x0, 0, none⟩) d.nb d.nb, .slice (some ⟨x1, 0, none⟩) d.nc d.nc, .slice (some ⟨x2, 0, none⟩) d.ns d.ns] 28)) = v24 at *
      replace A1 : Hid (Below w.heap.size w v24) := A1.out.trans (hb.mono A1.out.size)
      replace RA : Hid (Box3 v24 w.heap.size 51 (.slice a0 d.nb c0) (.slice a1 d.nc c1) (.slice a2 d.ns c2)) := RA.out.below hb
      replace RB : Hid (Box5 v24 (w.heap.size + 1) 52 (.int .i64 a.kd) (.int .i64 a.x) (.string a.s) (.slice ak a.nk ck) (.int .i64 a.t)) := RB.out.below hb
      replace VS : Hid (RowD v24 k sa0 sa1 sa2 sg0 sg1 sg2) := VS.out.below hb
      replace XS : Hid (Box3 v24 bs 28 (.slice sa0 k.nb sc0) (.slice sa1 k.nc sc1) (.slice sa2 k.ns sc2)) := XS.out.below hb
      replace VX : Hid (RowD v24 d (some ⟨x0, 0, none⟩) (some ⟨x1, 0, none⟩) (some ⟨x2, 0, none⟩) x0 x1 x2) := VX.out.below hb
      replace S2 : Hid (B2 ≤ (v24).heap.size) := Nat.le_trans S2.out hb.size
      clear hb q0 q1 q2 q3 q4 vis0 vis1 vis2 vis3 vis4
      obtain ⟨bx, hbx⟩ : ∃ bx, bx = v23.heap.size := ⟨_, rfl⟩
      rw [← hbx] at X0 ⊢
      clear hbx
      refine (TC.out _ (HY.out.below A1.out)).mono ?_
      rintro e v25 ⟨⟨xb, rfl, rd, gd⟩, hb⟩
      have P3 : Hid (B2 ≤ xb) := Nat.le_trans S2.out gd
      replace A1 : Hid (Below w.heap.size w v25) := A1.out.trans (hb.mono A1.out.size)
      replace RA : Hid (Box3 v25 w.heap.size 51 (.slice a0 d.nb c0) (.slice a1 d.nc c1) (.slice a2 d.ns c2)) := RA.out.below hb
      replace RB : Hid (Box5 v25 (w.heap.size + 1) 52 (.int .i64 a.kd) (.int .i64 a.x) (.string a.s) (.slice ak a.nk ck) (.int .i64 a.t)) := RB.out.below hb
      replace VS : Hid (RowD v25 k sa0 sa1 sa2 sg0 sg1 sg2) := VS.out.below hb
      replace XS : Hid (Box3 v25 bs 28 (.slice sa0 k.nb sc0) (.slice sa1 k.nc sc1) (.slice sa2 k.ns sc2)) := XS.out.below hb
      replace VX : Hid (RowD v25 d (some ⟨x0, 0, none⟩) (some ⟨x1, 0, none⟩) (some ⟨x2, 0, none⟩) x0 x1 x2) := VX.out.below hb
      replace S2 : Hid (B2 ≤ (v25).heap.size) := Nat.le_trans S2.out hb.size
      replace X0 : Hid (Box3 v25 bx 28 (.slice (some ⟨x0, 0, none⟩) d.nb d.nb) (.slice (some ⟨x1, 0, none⟩) d.nc d.nc) (.slice (some ⟨x2, 0, none⟩) d.ns d.ns)) := X0.out.below hb
      have VA : Hid ((v25).rowIs xb 4 a.nk (fun i => .bool (a.K i))) := rd
      clear hb rd gd
      have hb : Below v25.heap.size v25 (v25.alloc (.cells #[.int .i64 a.kd, .int .i64 a.x, .string a.s, .slice (some ⟨xb, 0, none⟩) a.nk a.nk, .int .i64 a.t] 38)) := (Below.refl _ _).alloc (Nat.le_refl _) _
      have vis0 := (X0.out.below hb).c0
      have vis1 := (X0.out.below hb).c1
      have vis2 := (X0.out.below hb).c2
      have X1 : Hid (Box5 (v25.alloc (.cells #[.int .i64 a.kd, .int .i64 a.x, .string a.s, .slice (some ⟨xb, 0, none⟩) a.nk a.nk, .int .i64 a.t] 38)) v25.heap.size 38 (.int .i64 a.kd) (.int .i64 a.x) (.string a.s) (.slice (some ⟨xb, 0, none⟩) a.nk a.nk) (.int .i64 a.t)) := Box5.made _ _ _ _ _ _ _
      have P4 : Hid (xb < v25.heap.size) := World.rowIs.lt VA.out
      go_wp2_with fail
      generalize (v25.alloc (.cells #[.int .i64 a.kd, .int .i64 a.x, .string a.s, .slice (some ⟨xb, 0, none⟩) a.nk a.nk, .int .i64 a.t] 38)) = v26 at *
      replace A1 : Hid (Below w.heap.size w v26) := A1.out.trans (hb.mono A1.out.size)
      replace RA : Hid (Box3 v26 w.heap.size 51 (.slice a0 d.nb c0) (.slice a1 d.nc c1) (.slice a2 d.ns c2)) := RA.out.below hb
      replace RB : Hid (Box5 v26 (w.heap.size + 1) 52 (.int .i64 a.kd) (.int .i64 a.x) (.string a.s) (.slice ak a.nk ck) (.int .i64 a.t)) := RB.out.below hb
      replace VS : Hid (RowD v26 k sa0 sa1 sa2 sg0 sg1 sg2) := VS.out.below hb
      replace XS : Hid (Box3 v26 bs 28 (.slice sa0 k.nb sc0) (.slice sa1 k.nc sc1) (.slice sa2 k.ns sc2)) := XS.out.below hb
      replace VX : Hid (RowD v26 d (some ⟨x0, 0, none⟩) (some ⟨x1, 0, none⟩) (some ⟨x2, 0, none⟩) x0 x1 x2) := VX.out.below hb
      replace S2 : Hid (B2 ≤ (v26).heap.size) := Nat.le_trans S2.out hb.size
      replace X0 : Hid (Box3 v26 bx 28 (.slice (some ⟨x0, 0, none⟩) d.nb d.nb) (.slice (some ⟨x1, 0, none⟩) d.nc d.nc) (.slice (some ⟨x2, 0, none⟩) d.ns d.ns)) := X0.out.below hb
      replace VA : Hid ((v26).rowIs xb 4 a.nk (fun i => .bool (a.K i))) := World.rowIs.of_block VA.out (hb.block _ (World.rowIs.lt VA.out))
      clear hb vis0 vis1 vis2
      obtain ⟨bz, hbz⟩ : ∃ bx, bx = v25.heap.size := ⟨_, rfl⟩
      rw [← hbz] at X1 P4 ⊢
      clear hbz
      obtain ⟨Bi, hBi⟩ : ∃ B, B = v26.heap.size := ⟨_, rfl⟩
      have P5 : Hid (bz < Bi) := by rw [hBi]; exact X1.out.lt
      refine (IY.out _ _ _ _ _ VX.out.diskV (Bools.ofRow VA.out) (HE.out.below A1.out)).mono ?_
      rintro e v27 ⟨⟨ia0, ia1, ia2, ic0, ic1, ic2, ig0, ig1, ig2, rfl, rd, hi0, hi1, hi2⟩, hb⟩
      have P6 : Hid (GeD k ig0 ig1 ig2 Bi) := by rw [hBi]; exact ⟨hi0, hi1, hi2⟩
      have P9 : Hid (Bi ≤ v27.heap.size) := by rw [hBi]; exact hb.size
      replace A1 : Hid (Below w.heap.size w v27) := A1.out.trans (hb.mono A1.out.size)
      replace RA : Hid (Box3 v27 w.heap.size 51 (.slice a0 d.nb c0) (.slice a1 d.nc c1) (.slice a2 d.ns c2)) := RA.out.below hb
      replace RB : Hid (Box5 v27 (w.heap.size + 1) 52 (.int .i64 a.kd) (.int .i64 a.x) (.string a.s) (.slice ak a.nk ck) (.int .i64 a.t)) := RB.out.below hb
      replace VS : Hid (RowD v27 k sa0 sa1 sa2 sg0 sg1 sg2) := VS.out.below hb
      replace XS : Hid (Box3 v27 bs 28 (.slice sa0 k.nb sc0) (.slice sa1 k.nc sc1) (.slice sa2 k.ns sc2)) := XS.out.below hb
      replace VX : Hid (RowD v27 d (some ⟨x0, 0, none⟩) (some ⟨x1, 0, none⟩) (some ⟨x2, 0, none⟩) x0 x1 x2) := VX.out.below hb
      replace S2 : Hid (B2 ≤ (v27).heap.size) := Nat.le_trans S2.out hb.size
      replace X0 : Hid (Box3 v27 bx 28 (.slice (some ⟨x0, 0, none⟩) d.nb d.nb) (.slice (some ⟨x1, 0, none⟩) d.nc d.nc) (.slice (some ⟨x2, 0, none⟩) d.ns d.ns)) := X0.out.below hb
      replace VA : Hid ((v27).rowIs xb 4 a.nk (fun i => .bool (a.K i))) := World.rowIs.of_block VA.out (hb.block _ (World.rowIs.lt VA.out))
      replace X1 : Hid (Box5 v27 bz 38 (.int .i64 a.kd) (.int .i64 a.x) (.string a.s) (.slice (some ⟨xb, 0, none⟩) a.nk a.nk) (.int .i64 a.t)) := X1.out.below hb
      have VI : Hid (RowD v27 k ia0 ia1 ia2 ig0 ig1 ig2) := rd
      clear hb rd hi0 hi1 hi2 hBi
      have P7 : Hid (LtD k ig0 ig1 ig2 v27.heap.size) := VI.out.ltD
      have P8 : Hid (Bi ≤ v27.heap.size) := Nat.le_trans P9.out (Nat.le_refl _)
      have hb : Below v27.heap.size v27 (v27.alloc (.cells #[.slice ia0 k.nb ic0, .slice ia1 k.nc ic1, .slice ia2 k.ns ic2] 28)) := (Below.refl _ _).alloc (Nat.le_refl _) _
      have XI : Hid (Box3 (v27.alloc (.cells #[.slice ia0 k.nb ic0, .slice ia1 k.nc ic1, .slice ia2 k.ns ic2] 28)) v27.heap.size 28 (.slice ia0 k.nb ic0) (.slice ia1 k.nc ic1) (.slice ia2 k.ns ic2)) := Box3.made _ _ _ _ _
      have vis00 := (XS.out.below hb).c0
      have vis01 := (XS.out.below hb).c1
      have vis02 := (XS.out.below hb).c2
      go_wp2_with fail
      generalize (v27.alloc (.cells #[.slice ia0 k.nb ic0, .slice ia1 k.nc ic1, .slice ia2 k.ns ic2] 28)) = v28 at *
      replace A1 : Hid (Below w.heap.size w v28) := A1.out.trans (hb.mono A1.out.size)
      replace RA : Hid (Box3 v28 w.heap.size 51 (.slice a0 d.nb c0) (.slice a1 d.nc c1) (.slice a2 d.ns c2)) := RA.out.below hb
      replace RB : Hid (Box5 v28 (w.heap.size + 1) 52 (.int .i64 a.kd) (.int .i64 a.x) (.string a.s) (.slice ak a.nk ck) (.int .i64 a.t)) := RB.out.below hb
      replace VS : Hid (RowD v28 k sa0 sa1 sa2 sg0 sg1 sg2) := VS.out.below hb
      replace XS : Hid (Box3 v28 bs 28 (.slice sa0 k.nb sc0) (.slice sa1 k.nc sc1) (.slice sa2 k.ns sc2)) := XS.out.below hb
      replace VX : Hid (RowD v28 d (some ⟨x0, 0, none⟩) (some ⟨x1, 0, none⟩) (some ⟨x2, 0, none⟩) x0 x1 x2) := VX.out.below hb
      replace S2 : Hid (B2 ≤ (v28).heap.size) := Nat.le_trans S2.out hb.size
      replace X0 : Hid (Box3 v28 bx 28 (.slice (some ⟨x0, 0, none⟩) d.nb d.nb) (.slice (some ⟨x1, 0, none⟩) d.nc d.nc) (.slice (some ⟨x2, 0, none⟩) d.ns d.ns)) := X0.out.below hb
      replace VA : Hid ((v28).rowIs xb 4 a.nk (fun i => .bool (a.K i))) := World.rowIs.of_block VA.out (hb.block _ (World.rowIs.lt VA.out))
      replace X1 : Hid (Box5 v28 bz 38 (.int .i64 a.kd) (.int .i64 a.x) (.string a.s) (.slice (some ⟨xb, 0, none⟩) a.nk a.nk) (.int .i64 a.t)) := X1.out.below hb
      replace VI : Hid (RowD v28 k ia0 ia1 ia2 ig0 ig1 ig2) := VI.out.below hb
      clear hb vis00 vis01 vis02
      obtain ⟨bi, hbi⟩ : ∃ bx, bx = v27.heap.size := ⟨_, rfl⟩
      rw [← hbi] at XI P7 P8 ⊢
      clear hbi
      refine (EQ.out _ _ _ _ _ _ _ _ _ _ _ _ _ VI.out.diskV VS.out.diskV).mono ?_
      rintro e v29 ⟨rfl, hb⟩
      replace A1 : Hid (Below w.heap.size w v29) := A1.out.trans (hb.mono A1.out.size)
      replace RA : Hid (Box3 v29 w.heap.size 51 (.slice a0 d.nb c0) (.slice a1 d.nc c1) (.slice a2 d.ns c2)) := RA.out.below hb
      replace RB : Hid (Box5 v29 (w.heap.size + 1) 52 (.int .i64 a.kd) (.int .i64 a.x) (.string a.s) (.slice ak a.nk ck) (.int .i64 a.t)) := RB.out.below hb
      replace VS : Hid (RowD v29 k sa0 sa1 sa2 sg0 sg1 sg2) := VS.out.below hb
      replace XS : Hid (Box3 v29 bs 28 (.slice sa0 k.nb sc0) (.slice sa1 k.nc sc1) (.slice sa2 k.ns sc2)) := XS.out.below hb
      replace VX : Hid (RowD v29 d (some ⟨x0, 0, none⟩) (some ⟨x1, 0, none⟩) (some ⟨x2, 0, none⟩) x0 x1 x2) := VX.out.below hb
      replace S2 : Hid (B2 ≤ (v29).heap.size) := Nat.le_trans S2.out hb.size
      replace X0 : Hid (Box3 v29 bx 28 (.slice (some ⟨x0, 0, none⟩) d.nb d.nb) (.slice (some ⟨x1, 0, none⟩) d.nc d.nc) (.slice (some ⟨x2, 0, none⟩) d.ns d.ns)) := X0.out.below hb
      replace VA : Hid ((v29).rowIs xb 4 a.nk (fun i => .bool (a.K i))) := World.rowIs.of_block VA.out (hb.block _ (World.rowIs.lt VA.out))
      replace X1 : Hid (Box5 v29 bz 38 (.int .i64 a.kd) (.int .i64 a.x) (.string a.s) (.slice (some ⟨xb, 0, none⟩) a.nk a.nk) (.int .i64 a.t)) := X1.out.below hb
      replace VI : Hid (RowD v29 k ia0 ia1 ia2 ig0 ig1 ig2) := VI.out.below hb
      replace XI : Hid (Box3 v29 bi 28 (.slice ia0 k.nb ic0) (.slice ia1 k.nc ic1) (.slice ia2 k.ns ic2)) := XI.out.below hb
      clear hb 
      have s0 := X0.out.c0
      have s1 := X0.out.c1
      have s2 := X0.out.c2
      have j0 := RA.out.c0
      have j1 := RA.out.c1
      have j2 := RA.out.c2
      go_wp2_with fail
      clear s0 s1 s2 j0 j1 j2
      have hb : Below v29.heap.size v29 v29.drew := (Below.refl _ _).drew
      have H : (Box3 v29.drew w.heap.size 51 (.slice a0 d.nb c0) (.slice a1 d.nc c1) (.slice a2 d.ns c2)) ∧ (Box3 v29.drew bx 28 (.slice (some ⟨x0, 0, none⟩) d.nb d.nb) (.slice (some ⟨x1, 0, none⟩) d.nc d.nc) (.slice (some ⟨x2, 0, none⟩) d.ns d.ns)) := ⟨RA.out.below hb, X0.out.below hb⟩
      replace A1 : Hid (Below w.heap.size w v29.drew) := A1.out.trans (hb.mono A1.out.size)
      replace RB : Hid (Box5 v29.drew (w.heap.size + 1) 52 (.int .i64 a.kd) (.int .i64 a.x) (.string a.s) (.slice ak a.nk ck) (.int .i64 a.t)) := RB.out.below hb
      replace VS : Hid (RowD v29.drew k sa0 sa1 sa2 sg0 sg1 sg2) := VS.out.below hb
      replace XS : Hid (Box3 v29.drew bs 28 (.slice sa0 k.nb sc0) (.slice sa1 k.nc sc1) (.slice sa2 k.ns sc2)) := XS.out.below hb
      replace VX : Hid (RowD v29.drew d (some ⟨x0, 0, none⟩) (some ⟨x1, 0, none⟩) (some ⟨x2, 0, none⟩) x0 x1 x2) := VX.out.below hb
      replace S2 : Hid (B2 ≤ (v29.drew).heap.size) := Nat.le_trans S2.out hb.size
      replace VA : Hid ((v29.drew).rowIs xb 4 a.nk (fun i => .bool (a.K i))) := World.rowIs.of_block VA.out (hb.block _ (World.rowIs.lt VA.out))
      replace X1 : Hid (Box5 v29.drew bz 38 (.int .i64 a.kd) (.int .i64 a.x) (.string a.s) (.slice (some ⟨xb, 0, none⟩) a.nk a.nk) (.int .i64 a.t)) := X1.out.below hb
      replace VI : Hid (RowD v29.drew k ia0 ia1 ia2 ig0 ig1 ig2) := VI.out.below hb
      replace XI : Hid (Box3 v29.drew bi 28 (.slice ia0 k.nb ic0) (.slice ia1 k.nc ic1) (.slice ia2 k.ns ic2)) := XI.out.below hb
      clear hb RA X0
      refine wp_region_noPanic ?_
      refine wp_region_held_drew (S := fun w' => (Box3 w' w.heap.size 51 (.slice a0 d.nb c0) (.slice a1 d.nc c1) (.slice a2 d.ns c2)) ∧ (Box3 w' bx 28 (.slice (some ⟨x0, 0, none⟩) d.nb d.nb) (.slice (some ⟨x1, 0, none⟩) d.nc d.nc) (.slice (some ⟨x2, 0, none⟩) d.ns d.ns))) (by kernel_rfl) H (fun _ => ?_)
      generalize v29.drew = v30 at *
      refine wpAnyH_take (i := 0) (v := .agg #[.slice (some ⟨x0, 0, none⟩) d.nb d.nb, .slice (some ⟨x1, 0, none⟩) d.nc d.nc, .slice (some ⟨x2, 0, none⟩) d.ns d.ns]) rfl (by kernel_rfl) (by kernel_rfl) (by kernel_rfl) (fun _ _ _ h => h) (Or.inl ⟨by rfl, ?_⟩) H ?_
      · intro w' hSw; have t0 := hSw.2.c0; have t1 := hSw.2.c1; have t2 := hSw.2.c2; clear hSw; go_simp
      change wpAnyH _ _ _ _ _ _ _ { tmps := #[_, _, _, _, _, _, _, _, _, _, _, _, _, _, _, _, _, _, _, _, _, _, _, _, _, _, _, _, _, _, _, _, _, _, _, _, _, _, _, _, _, _, _, _, _, _, _, _, _, _, _, _, _, _, _, _, _, _, _, _, _, _, _, _, _, _, _, _, _, _, _, _, _, _, _, _, _, _, _, _, _, _, _, _, _, _, _, _, _, _, _, _, _, _, _, _, _, _, _, _, _, _, _, _, _, _, _, _, _, _, _, _, _, _, _, _, _, _, _], defers := _ } _
      refine wpAnyH_take (i := 1) (v := .agg #[.slice a0 d.nb c0, .slice a1 d.nc c1, .slice a2 d.ns c2]) rfl (by kernel_rfl) (by kernel_rfl) (by kernel_rfl) (fun _ _ _ h => h) (Or.inl ⟨by rfl, ?_⟩) H ?_
      · intro w' hSw; have t0 := hSw.1.c0; have t1 := hSw.1.c1; have t2 := hSw.1.c2; clear hSw; go_simp
      change wpAnyH _ _ _ _ _ _ _ { tmps := #[_, _, _, _, _, _, _, _, _, _, _, _, _, _, _, _, _, _, _, _, _, _, _, _, _, _, _, _, _, _, _, _, _, _, _, _, _, _, _, _, _, _, _, _, _, _, _, _, _, _, _, _, _, _, _, _, _, _, _, _, _, _, _, _, _, _, _, _, _, _, _, _, _, _, _, _, _, _, _, _, _, _, _, _, _, _, _, _, _, _, _, _, _, _, _, _, _, _, _, _, _, _, _, _, _, _, _, _, _, _, _, _, _, _, _, _, _, _, _], defers := _ } _
      refine wpAnyH_ready (rs := [2]) (by kernel_rfl) (by simp) ?_
      refine AllReadyH.cons rfl (fun KK hK => ?_) AllReadyH.nil
      go_simp
      refine (TD.out _ (HX.out.below A1.out)).mono ?_
      rintro e v31 ⟨⟨m0, m1, m2, rfl, rd, gd⟩, hb⟩
      replace A1 : Hid (Below w.heap.size w v31) := A1.out.trans (hb.mono A1.out.size)
      replace RB : Hid (Box5 v31 (w.heap.size + 1) 52 (.int .i64 a.kd) (.int .i64 a.x) (.string a.s) (.slice ak a.nk ck) (.int .i64 a.t)) := RB.out.below hb
      replace VS : Hid (RowD v31 k sa0 sa1 sa2 sg0 sg1 sg2) := VS.out.below hb
      replace XS : Hid (Box3 v31 bs 28 (.slice sa0 k.nb sc0) (.slice sa1 k.nc sc1) (.slice sa2 k.ns sc2)) := XS.out.below hb
      replace VX : Hid (RowD v31 d (some ⟨x0, 0, none⟩) (some ⟨x1, 0, none⟩) (some ⟨x2, 0, none⟩) x0 x1 x2) := VX.out.below hb
      replace S2 : Hid (B2 ≤ (v31).heap.size) := Nat.le_trans S2.out hb.size
      replace VA : Hid ((v31).rowIs xb 4 a.nk (fun i => .bool (a.K i))) := World.rowIs.of_block VA.out (hb.block _ (World.rowIs.lt VA.out))
      replace X1 : Hid (Box5 v31 bz 38 (.int .i64 a.kd) (.int .i64 a.x) (.string a.s) (.slice (some ⟨xb, 0, none⟩) a.nk a.nk) (.int .i64 a.t)) := X1.out.below hb
      replace VI : Hid (RowD v31 k ia0 ia1 ia2 ig0 ig1 ig2) := VI.out.below hb
      replace XI : Hid (Box3 v31 bi 28 (.slice ia0 k.nb ic0) (.slice ia1 k.nc ic1) (.slice ia2 k.ns ic2)) := XI.out.below hb
      replace H : (Box3 v31 w.heap.size 51 (.slice a0 d.nb c0) (.slice a1 d.nc c1) (.slice a2 d.ns c2)) ∧ (Box3 v31 bx 28 (.slice (some ⟨x0, 0, none⟩) d.nb d.nb) (.slice (some ⟨x1, 0, none⟩) d.nc d.nc) (.slice (some ⟨x2, 0, none⟩) d.ns d.ns)) := ⟨H.1.below hb, H.2.below hb⟩
      have V3 : Hid (RowD v31 d (some ⟨m0, 0, none⟩) (some ⟨m1, 0, none⟩) (some ⟨m2, 0, none⟩) m0 m1 m2) := rd
      clear hb rd gd
      refine hK.out _ _ H (fun _ => ?_)
      clear hK KK
      change wpAnyH _ _ _ _ _ _ _ { tmps := #[_, _, _, _, _, _, _, _, _, _, _, _, _, _, _, _, _, _, _, _, _, _, _, _, _, _, _, _, _, _, _, _, _, _, _, _, _, _, _, _, _, _, _, _, _, _, _, _, _, _, _, _, _, _, _, _, _, _, _, _, _, _, _, _, _, _, _, _, _, _, _, _, _, _, _, _, _, _, _, _, _, _, _, _, _, _, _, _, _, _, _, _, _, _, _, _, _, _, _, _, _, _, _, _, _, _, _, _, _, _, _, _, _, _, _, _, _, _, _], defers := _ } _
      refine wpAnyH_ready (rs := [3]) (by kernel_rfl) (by simp) ?_
      refine AllReadyH.cons rfl (fun KK hK => ?_) AllReadyH.nil
      go_simp
      refine (ED.out _ _ _ _ _ _ _ _ _ _ _ _ _ VX.out.diskV V3.out.diskV).mono ?_
      rintro e v32 ⟨rfl, hb⟩
      replace A1 : Hid (Below w.heap.size w v32) := A1.out.trans (hb.mono A1.out.size)
      replace RB : Hid (Box5 v32 (w.heap.size + 1) 52 (.int .i64 a.kd) (.int .i64 a.x) (.string a.s) (.slice ak a.nk ck) (.int .i64 a.t)) := RB.out.below hb
      replace VS : Hid (RowD v32 k sa0 sa1 sa2 sg0 sg1 sg2) := VS.out.below hb
      replace XS : Hid (Box3 v32 bs 28 (.slice sa0 k.nb sc0) (.slice sa1 k.nc sc1) (.slice sa2 k.ns sc2)) := XS.out.below hb
      replace VX : Hid (RowD v32 d (some ⟨x0, 0, none⟩) (some ⟨x1, 0, none⟩) (some ⟨x2, 0, none⟩) x0 x1 x2) := VX.out.below hb
      replace S2 : Hid (B2 ≤ (v32).heap.size) := Nat.le_trans S2.out hb.size
      replace VA : Hid ((v32).rowIs xb 4 a.nk (fun i => .bool (a.K i))) := World.rowIs.of_block VA.out (hb.block _ (World.rowIs.lt VA.out))
      replace X1 : Hid (Box5 v32 bz 38 (.int .i64 a.kd) (.int .i64 a.x) (.string a.s) (.slice (some ⟨xb, 0, none⟩) a.nk a.nk) (.int .i64 a.t)) := X1.out.below hb
      replace VI : Hid (RowD v32 k ia0 ia1 ia2 ig0 ig1 ig2) := VI.out.below hb
      replace XI : Hid (Box3 v32 bi 28 (.slice ia0 k.nb ic0) (.slice ia1 k.nc ic1) (.slice ia2 k.ns ic2)) := XI.out.below hb
      replace V3 : Hid (RowD v32 d (some ⟨m0, 0, none⟩) (some ⟨m1, 0, none⟩) (some ⟨m2, 0, none⟩) m0 m1 m2) := V3.out.below hb
      replace H : (Box3 v32 w.heap.size 51 (.slice a0 d.nb c0) (.slice a1 d.nc c1) (.slice a2 d.ns c2)) ∧ (Box3 v32 bx 28 (.slice (some ⟨x0, 0, none⟩) d.nb d.nb) (.slice (some ⟨x1, 0, none⟩) d.nc d.nc) (.slice (some ⟨x2, 0, none⟩) d.ns d.ns)) := ⟨H.1.below hb, H.2.below hb⟩
      clear hb 
      refine hK.out _ _ H (fun _ => ?_)
      clear hK KK
      change wpAnyH _ _ _ _ _ _ _ { tmps := #[_, _, _, _, _, _, _, _, _, _, _, _, _, _, _, _, _, _, _, _, _, _, _, _, _, _, _, _, _, _, _, _, _, _, _, _, _, _, _, _, _, _, _, _, _, _, _, _, _, _, _, _, _, _, _, _, _, _, _, _, _, _, _, _, _, _, _, _, _, _, _, _, _, _, _, _, _, _, _, _, _, _, _, _, _, _, _, _, _, _, _, _, _, _, _, _, _, _, _, _, _, _, _, _, _, _, _, _, _, _, _, _, _, _, _, _, _, _, _], defers := _ } _
      refine wpAnyH_take (i := 4) (v := .bool false) rfl (by kernel_rfl) (by kernel_rfl) (by kernel_rfl) (fun _ _ _ h => h) (Or.inl ⟨by rfl, ?_⟩) H ?_
      · intro w' hSw; go_simp
      change wpAnyH _ _ _ _ _ _ _ { tmps := #[_, _, _, _, _, _, _, _, _, _, _, _, _, _, _, _, _, _, _, _, _, _, _, _, _, _, _, _, _, _, _, _, _, _, _, _, _, _, _, _, _, _, _, _, _, _, _, _, _, _, _, _, _, _, _, _, _, _, _, _, _, _, _, _, _, _, _, _, _, _, _, _, _, _, _, _, _, _, _, _, _, _, _, _, _, _, _, _, _, _, _, _, _, _, _, _, _, _, _, _, _, _, _, _, _, _, _, _, _, _, _, _, _, _, _, _, _, _, _], defers := _ } _
      have RA : Hid (Box3 v32 w.heap.size 51 (.slice a0 d.nb c0) (.slice a1 d.nc c1) (.slice a2 d.ns c2)) := H.1
      have X0 : Hid (Box3 v32 bx 28 (.slice (some ⟨x0, 0, none⟩) d.nb d.nb) (.slice (some ⟨x1, 0, none⟩) d.nc d.nc) (.slice (some ⟨x2, 0, none⟩) d.ns d.ns)) := H.2
      clear H
      refine wpAnyH_done (by kernel_rfl) ?_ _
      refine NoPanic.normal ?_
      clear V3
      have s0 := X1.out.c0
      have s1 := X1.out.c1
      have s2 := X1.out.c2
      have s3 := X1.out.c3
      have s4 := X1.out.c4
      have j0 := RB.out.c0
      have j1 := RB.out.c1
      have j2 := RB.out.c2
      have j3 := RB.out.c3
      have j4 := RB.out.c4
      go_wp2_with fail
      clear s0 s1 s2 s3 s4
      clear j0 j1 j2 j3 j4
      have hb : Below v32.heap.size v32 v32.drew := (Below.refl _ _).drew
      have H : (Box5 v32.drew (w.heap.size + 1) 52 (.int .i64 a.kd) (.int .i64 a.x) (.string a.s) (.slice ak a.nk ck) (.int .i64 a.t)) ∧ (Box5 v32.drew bz 38 (.int .i64 a.kd) (.int .i64 a.x) (.string a.s) (.slice (some ⟨xb, 0, none⟩) a.nk a.nk) (.int .i64 a.t)) := ⟨RB.out.below hb, X1.out.below hb⟩
      replace A1 : Hid (Below w.heap.size w v32.drew) := A1.out.trans (hb.mono A1.out.size)
      replace VS : Hid (RowD v32.drew k sa0 sa1 sa2 sg0 sg1 sg2) := VS.out.below hb
      replace XS : Hid (Box3 v32.drew bs 28 (.slice sa0 k.nb sc0) (.slice sa1 k.nc sc1) (.slice sa2 k.ns sc2)) := XS.out.below hb
      replace VX : Hid (RowD v32.drew d (some ⟨x0, 0, none⟩) (some ⟨x1, 0, none⟩) (some ⟨x2, 0, none⟩) x0 x1 x2) := VX.out.below hb
      replace S2 : Hid (B2 ≤ (v32.drew).heap.size) := Nat.le_trans S2.out hb.size
      replace VA : Hid ((v32.drew).rowIs xb 4 a.nk (fun i => .bool (a.K i))) := World.rowIs.of_block VA.out (hb.block _ (World.rowIs.lt VA.out))
      replace VI : Hid (RowD v32.drew k ia0 ia1 ia2 ig0 ig1 ig2) := VI.out.below hb
      replace XI : Hid (Box3 v32.drew bi 28 (.slice ia0 k.nb ic0) (.slice ia1 k.nc ic1) (.slice ia2 k.ns ic2)) := XI.out.below hb
      replace RA : Hid (Box3 v32.drew w.heap.size 51 (.slice a0 d.nb c0) (.slice a1 d.nc c1) (.slice a2 d.ns c2)) := RA.out.below hb
      replace X0 : Hid (Box3 v32.drew bx 28 (.slice (some ⟨x0, 0, none⟩) d.nb d.nb) (.slice (some ⟨x1, 0, none⟩) d.nc d.nc) (.slice (some ⟨x2, 0, none⟩) d.ns d.ns)) := X0.out.below hb
      clear hb RB X1
      refine wp_region_noPanic ?_
      refine wp_region_held_drew (S := fun w' => (Box5 w' (w.heap.size + 1) 52 (.int .i64 a.kd) (.int .i64 a.x) (.string a.s) (.slice ak a.nk ck) (.int .i64 a.t)) ∧ (Box5 w' bz 38 (.int .i64 a.kd) (.int .i64 a.x) (.string a.s) (.slice (some ⟨xb, 0, none⟩) a.nk a.nk) (.int .i64 a.t))) (by kernel_rfl) H (fun _ => ?_)
      generalize v32.drew = v33 at *
      refine wpAnyH_take (i := 0) (v := .agg #[.int .i64 a.kd, .int .i64 a.x, .string a.s, .slice (some ⟨xb, 0, none⟩) a.nk a.nk, .int .i64 a.t]) rfl (by kernel_rfl) (by kernel_rfl) (by kernel_rfl) (fun _ _ _ h => h) (Or.inl ⟨by rfl, ?_⟩) H ?_
      · intro w' hSw; have t0 := hSw.2.c0; have t1 := hSw.2.c1; have t2 := hSw.2.c2; have t3 := hSw.2.c3; have t4 := hSw.2.c4; clear hSw; go_simp
      change wpAnyH _ _ _ _ _ _ _ { tmps := #[_, _, _, _, _, _, _, _, _, _, _, _, _, _, _, _, _, _, _, _, _, _, _, _, _, _, _, _, _, _, _, _, _, _, _, _, _, _, _, _, _, _, _, _, _, _, _, _, _, _, _, _, _, _, _, _, _, _, _, _, _, _, _, _, _, _, _, _, _, _, _, _, _, _, _, _, _, _, _, _, _, _, _, _, _, _, _, _, _, _, _, _, _, _, _, _, _, _, _, _, _, _, _, _, _, _, _, _, _, _, _, _, _, _, _, _, _, _, _], defers := _ } _
      refine wpAnyH_take (i := 1) (v := .agg #[.int .i64 a.kd, .int .i64 a.x, .string a.s, .slice ak a.nk ck, .int .i64 a.t]) rfl (by kernel_rfl) (by kernel_rfl) (by kernel_rfl) (fun _ _ _ h => h) (Or.inl ⟨by rfl, ?_⟩) H ?_
      · intro w' hSw; have t0 := hSw.1.c0; have t1 := hSw.1.c1; have t2 := hSw.1.c2; have t3 := hSw.1.c3; have t4 := hSw.1.c4; clear hSw; go_simp
      change wpAnyH _ _ _ _ _ _ _ { tmps := #[_, _, _, _, _, _, _, _, _, _, _, _, _, _, _, _, _, _, _, _, _, _, _, _, _, _, _, _, _, _, _, _, _, _, _, _, _, _, _, _, _, _, _, _, _, _, _, _, _, _, _, _, _, _, _, _, _, _, _, _, _, _, _, _, _, _, _, _, _, _, _, _, _, _, _, _, _, _, _, _, _, _, _, _, _, _, _, _, _, _, _, _, _, _, _, _, _, _, _, _, _, _, _, _, _, _, _, _, _, _, _, _, _, _, _, _, _, _, _], defers := _ } _
      refine wpAnyH_ready (rs := [2]) (by kernel_rfl) (by simp) ?_
      refine AllReadyH.cons rfl (fun KK hK => ?_) AllReadyH.nil
      go_simp
      refine (TC.out _ (HY.out.below A1.out)).mono ?_
      rintro e v34 ⟨⟨mb, rfl, rd, gd⟩, hb⟩
      replace A1 : Hid (Below w.heap.size w v34) := A1.out.trans (hb.mono A1.out.size)
      replace VS : Hid (RowD v34 k sa0 sa1 sa2 sg0 sg1 sg2) := VS.out.below hb
      replace XS : Hid (Box3 v34 bs 28 (.slice sa0 k.nb sc0) (.slice sa1 k.nc sc1) (.slice sa2 k.ns sc2)) := XS.out.below hb
      replace VX : Hid (RowD v34 d (some ⟨x0, 0, none⟩) (some ⟨x1, 0, none⟩) (some ⟨x2, 0, none⟩) x0 x1 x2) := VX.out.below hb
      replace S2 : Hid (B2 ≤ (v34).heap.size) := Nat.le_trans S2.out hb.size
      replace VA : Hid ((v34).rowIs xb 4 a.nk (fun i => .bool (a.K i))) := World.rowIs.of_block VA.out (hb.block _ (World.rowIs.lt VA.out))
      replace VI : Hid (RowD v34 k ia0 ia1 ia2 ig0 ig1 ig2) := VI.out.below hb
      replace XI : Hid (Box3 v34 bi 28 (.slice ia0 k.nb ic0) (.slice ia1 k.nc ic1) (.slice ia2 k.ns ic2)) := XI.out.below hb
      replace RA : Hid (Box3 v34 w.heap.size 51 (.slice a0 d.nb c0) (.slice a1 d.nc c1) (.slice a2 d.ns c2)) := RA.out.below hb
      replace X0 : Hid (Box3 v34 bx 28 (.slice (some ⟨x0, 0, none⟩) d.nb d.nb) (.slice (some ⟨x1, 0, none⟩) d.nc d.nc) (.slice (some ⟨x2, 0, none⟩) d.ns d.ns)) := X0.out.below hb
      replace H : (Box5 v34 (w.heap.size + 1) 52 (.int .i64 a.kd) (.int .i64 a.x) (.string a.s) (.slice ak a.nk ck) (.int .i64 a.t)) ∧ (Box5 v34 bz 38 (.int .i64 a.kd) (.int .i64 a.x) (.string a.s) (.slice (some ⟨xb, 0, none⟩) a.nk a.nk) (.int .i64 a.t)) := ⟨H.1.below hb, H.2.below hb⟩
      have V3 : Hid ((v34).rowIs mb 4 a.nk (fun i => .bool (a.K i))) := rd
      clear hb rd gd
      refine hK.out _ _ H (fun _ => ?_)
      clear hK KK
      change wpAnyH _ _ _ _ _ _ _ { tmps := #[_, _, _, _, _, _, _, _, _, _, _, _, _, _, _, _, _, _, _, _, _, _, _, _, _, _, _, _, _, _, _, _, _, _, _, _, _, _, _, _, _, _, _, _, _, _, _, _, _, _, _, _, _, _, _, _, _, _, _, _, _, _, _, _, _, _, _, _, _, _, _, _, _, _, _, _, _, _, _, _, _, _, _, _, _, _, _, _, _, _, _, _, _, _, _, _, _, _, _, _, _, _, _, _, _, _, _, _, _, _, _, _, _, _, _, _, _, _, _], defers := _ } _
      refine wpAnyH_ready (rs := [3]) (by kernel_rfl) (by simp) ?_
      refine AllReadyH.cons rfl (fun KK hK => ?_) AllReadyH.nil
      go_simp
      refine (EA.out _ _ _ _ _ (Bools.ofRow VA.out) (Bools.ofRow V3.out)).mono ?_
      rintro e v35 ⟨rfl, hb⟩
      replace A1 : Hid (Below w.heap.size w v35) := A1.out.trans (hb.mono A1.out.size)
      replace VS : Hid (RowD v35 k sa0 sa1 sa2 sg0 sg1 sg2) := VS.out.below hb
      replace XS : Hid (Box3 v35 bs 28 (.slice sa0 k.nb sc0) (.slice sa1 k.nc sc1) (.slice sa2 k.ns sc2)) := XS.out.below hb
      replace VX : Hid (RowD v35 d (some ⟨x0, 0, none⟩) (some ⟨x1, 0, none⟩) (some ⟨x2, 0, none⟩) x0 x1 x2) := VX.out.below hb
      replace S2 : Hid (B2 ≤ (v35).heap.size) := Nat.le_trans S2.out hb.size
      replace VA : Hid ((v35).rowIs xb 4 a.nk (fun i => .bool (a.K i))) := World.rowIs.of_block VA.out (hb.block _ (World.rowIs.lt VA.out))
      replace VI : Hid (RowD v35 k ia0 ia1 ia2 ig0 ig1 ig2) := VI.out.below hb
      replace XI : Hid (Box3 v35 bi 28 (.slice ia0 k.nb ic0) (.slice ia1 k.nc ic1) (.slice ia2 k.ns ic2)) := XI.out.below hb
      replace RA : Hid (Box3 v35 w.heap.size 51 (.slice a0 d.nb c0) (.slice a1 d.nc c1) (.slice a2 d.ns c2)) := RA.out.below hb
      replace X0 : Hid (Box3 v35 bx 28 (.slice (some ⟨x0, 0, none⟩) d.nb d.nb) (.slice (some ⟨x1, 0, none⟩) d.nc d.nc) (.slice (some ⟨x2, 0, none⟩) d.ns d.ns)) := X0.out.below hb
      replace V3 : Hid ((v35).rowIs mb 4 a.nk (fun i => .bool (a.K i))) := World.rowIs.of_block V3.out (hb.block _ (World.rowIs.lt V3.out))
      replace H : (Box5 v35 (w.heap.size + 1) 52 (.int .i64 a.kd) (.int .i64 a.x) (.string a.s) (.slice ak a.nk ck) (.int .i64 a.t)) ∧ (Box5 v35 bz 38 (.int .i64 a.kd) (.int .i64 a.x) (.string a.s) (.slice (some ⟨xb, 0, none⟩) a.nk a.nk) (.int .i64 a.t)) := ⟨H.1.below hb, H.2.below hb⟩
      clear hb 
      refine hK.out _ _ H (fun _ => ?_)
      clear hK KK
      change wpAnyH _ _ _ _ _ _ _ { tmps := #[_, _, _, _, _, _, _, _, _, _, _, _, _, _, _, _, _, _, _, _, _, _, _, _, _, _, _, _, _, _, _, _, _, _, _, _, _, _, _, _, _, _, _, _, _, _, _, _, _, _, _, _, _, _, _, _, _, _, _, _, _, _, _, _, _, _, _, _, _, _, _, _, _, _, _, _, _, _, _, _, _, _, _, _, _, _, _, _, _, _, _, _, _, _, _, _, _, _, _, _, _, _, _, _, _, _, _, _, _, _, _, _, _, _, _, _, _, _, _], defers := _ } _
      refine wpAnyH_take (i := 4) (v := .bool false) rfl (by kernel_rfl) (by kernel_rfl) (by kernel_rfl) (fun _ _ _ h => h) (Or.inl ⟨by rfl, ?_⟩) H ?_
      · intro w' hSw; go_simp
      change wpAnyH _ _ _ _ _ _ _ { tmps := #[_, _, _, _, _, _, _, _, _, _, _, _, _, _, _, _, _, _, _, _, _, _, _, _, _, _, _, _, _, _, _, _, _, _, _, _, _, _, _, _, _, _, _, _, _, _, _, _, _, _, _, _, _, _, _, _, _, _, _, _, _, _, _, _, _, _, _, _, _, _, _, _, _, _, _, _, _, _, _, _, _, _, _, _, _, _, _, _, _, _, _, _, _, _, _, _, _, _, _, _, _, _, _, _, _, _, _, _, _, _, _, _, _, _, _, _, _, _, _], defers := _ } _
      have RB : Hid (Box5 v35 (w.heap.size + 1) 52 (.int .i64 a.kd) (.int .i64 a.x) (.string a.s) (.slice ak a.nk ck) (.int .i64 a.t)) := H.1
      have X1 : Hid (Box5 v35 bz 38 (.int .i64 a.kd) (.int .i64 a.x) (.string a.s) (.slice (some ⟨xb, 0, none⟩) a.nk a.nk) (.int .i64 a.t)) := H.2
      clear H
      refine wpAnyH_done (by kernel_rfl) ?_ _
      refine NoPanic.normal ?_
      clear V3
      have PP : Hid (bs < B1 ∧ w.heap.size + 1 < B1 ∧ w.heap.size ≤ B1 ∧ B1 ≤ B2 ∧ B2 ≤ xb ∧ xb < bz ∧ bz < Bi) := ⟨P1.out.2.1, P1.out.2.2.1, P1.out.2.2.2, P2.out.2.2, P3.out, P4.out, P5.out⟩
      have s0 := X0.out.c0
      have s1 := X0.out.c1
      have s2 := X0.out.c2
      go_wp2_with fail
      clear s0 s1 s2
      refine (MD.out B1 _ _ _ _ _ _ _ _ _ _ P2.out.1 (Nat.le_trans P2.out.2.2 S2.out) VX.out).mono ?_
      rintro e v36 ⟨rfl, -, hk0, hb⟩
      have hk : KeepR B1 B2 v35 v36 := hk0.keepR P2.out.1 P2.out.2.1
      replace A1 : Hid (Below w.heap.size w v36) := A1.out.trans (hb.mono PP.out.2.2.1)
      have hsz := hb.size
      replace VS : Hid (RowD v36 k sa0 sa1 sa2 sg0 sg1 sg2) := VS.out.keepR hk (.inl (P1.out.1.mono (by have pp := PP.out; omega)))
      replace XS : Hid (Box3 v36 bs 28 (.slice sa0 k.nb sc0) (.slice sa1 k.nc sc1) (.slice sa2 k.ns sc2)) := XS.out.keepR hk (.inl (by have pp := PP.out; omega))
      replace VA : Hid ((v36).rowIs xb 4 a.nk (fun i => .bool (a.K i))) := World.rowIs.of_block VA.out (hk _ (World.rowIs.lt VA.out) (.inr P3.out))
      replace VI : Hid (RowD v36 k ia0 ia1 ia2 ig0 ig1 ig2) := VI.out.keepR hk (.inr (P6.out.mono (by have pp := PP.out; omega)))
      replace XI : Hid (Box3 v36 bi 28 (.slice ia0 k.nb ic0) (.slice ia1 k.nc ic1) (.slice ia2 k.ns ic2)) := XI.out.keepR hk (.inr (by have := P8.out; have pp := PP.out; omega))
      replace RA : Hid (Box3 v36 w.heap.size 51 (.slice a0 d.nb c0) (.slice a1 d.nc c1) (.slice a2 d.ns c2)) := RA.out.keepR hk (.inl (by have pp := PP.out; omega))
      replace RB : Hid (Box5 v36 (w.heap.size + 1) 52 (.int .i64 a.kd) (.int .i64 a.x) (.string a.s) (.slice ak a.nk ck) (.int .i64 a.t)) := RB.out.keepR hk (.inl (by have pp := PP.out; omega))
      replace X1 : Hid (Box5 v36 bz 38 (.int .i64 a.kd) (.int .i64 a.x) (.string a.s) (.slice (some ⟨xb, 0, none⟩) a.nk a.nk) (.int .i64 a.t)) := X1.out.keepR hk (.inr (by have pp := PP.out; omega))
      clear hk hk0 hb hsz VX X0 S2 MD P2
      have s0 := X1.out.c0
      have s1 := X1.out.c1
      have s2 := X1.out.c2
      have s3 := X1.out.c3
      have s4 := X1.out.c4
      go_wp2_with fail
      clear s0 s1 s2 s3 s4
      refine (MA.out _ _ _ VA.out).mono ?_
      rintro e v37 ⟨rfl, ho⟩
      have hk : KeepR xb (xb + 1) v36 v37 := ho.keepR
      replace A1 : Hid (Below w.heap.size w v37) := A1.out.trans (ho.toBelow (by have pp := PP.out; omega) A1.out.size)
      replace VS : Hid (RowD v37 k sa0 sa1 sa2 sg0 sg1 sg2) := VS.out.keepR hk (.inl (P1.out.1.mono (by have pp := PP.out; omega)))
      replace XS : Hid (Box3 v37 bs 28 (.slice sa0 k.nb sc0) (.slice sa1 k.nc sc1) (.slice sa2 k.ns sc2)) := XS.out.keepR hk (.inl (by have pp := PP.out; omega))
      replace VI : Hid (RowD v37 k ia0 ia1 ia2 ig0 ig1 ig2) := VI.out.keepR hk (.inr (P6.out.mono (by have pp := PP.out; omega)))
      replace XI : Hid (Box3 v37 bi 28 (.slice ia0 k.nb ic0) (.slice ia1 k.nc ic1) (.slice ia2 k.ns ic2)) := XI.out.keepR hk (.inr (by have := P8.out; have pp := PP.out; omega))
      replace RA : Hid (Box3 v37 w.heap.size 51 (.slice a0 d.nb c0) (.slice a1 d.nc c1) (.slice a2 d.ns c2)) := RA.out.keepR hk (.inl (by have pp := PP.out; omega))
      replace RB : Hid (Box5 v37 (w.heap.size + 1) 52 (.int .i64 a.kd) (.int .i64 a.x) (.string a.s) (.slice ak a.nk ck) (.int .i64 a.t)) := RB.out.keepR hk (.inl (by have pp := PP.out; omega))
      clear hk ho VA X1 MA P3 P4
      have j0 := XI.out.c0
      have j1 := XI.out.c1
      have j2 := XI.out.c2
      have s0 := XS.out.c0
      have s1 := XS.out.c1
      have s2 := XS.out.c2
      go_wp2_with fail
      refine (EQ.out _ _ _ _ _ _ _ _ _ _ _ _ _ VI.out.diskV VS.out.diskV).mono ?_
      rintro e v38 ⟨rfl, hb⟩
      replace A1 : Hid (Below w.heap.size w v38) := A1.out.trans (hb.mono A1.out.size)
      replace VS : Hid (RowD v38 k sa0 sa1 sa2 sg0 sg1 sg2) := VS.out.below hb
      replace XS : Hid (Box3 v38 bs 28 (.slice sa0 k.nb sc0) (.slice sa1 k.nc sc1) (.slice sa2 k.ns sc2)) := XS.out.below hb
      replace VI : Hid (RowD v38 k ia0 ia1 ia2 ig0 ig1 ig2) := VI.out.below hb
      replace XI : Hid (Box3 v38 bi 28 (.slice ia0 k.nb ic0) (.slice ia1 k.nc ic1) (.slice ia2 k.ns ic2)) := XI.out.below hb
      replace RA : Hid (Box3 v38 w.heap.size 51 (.slice a0 d.nb c0) (.slice a1 d.nc c1) (.slice a2 d.ns c2)) := RA.out.below hb
      replace RB : Hid (Box5 v38 (w.heap.size + 1) 52 (.int .i64 a.kd) (.int .i64 a.x) (.string a.s) (.slice ak a.nk ck) (.int .i64 a.t)) := RB.out.below hb
      clear hb 
      clear j0 j1 j2 s0 s1 s2
      have j0 := XI.out.c0
      have j1 := XI.out.c1
      have j2 := XI.out.c2
      go_wp2_with fail
      clear j0 j1 j2
      have bw : Hid (w.heap.size ≤ Bi) := by show w.heap.size ≤ Bi; have pp := PP.out; omega
      refine (MK.out w.heap.size _ _ _ _ _ _ _ _ _ _ (P6.out.mono bw.out) A1.out.size VI.out).mono ?_
      rintro e v39 ⟨rfl, rd, hk0, hb⟩
      have hk : KeepR Bi bi v38 v39 := hk0.keepR P6.out P7.out
      replace A1 : Hid (Below w.heap.size w v39) := A1.out.trans hb
      replace VS : Hid (RowD v39 k sa0 sa1 sa2 sg0 sg1 sg2) := VS.out.keepR hk (.inl (P1.out.1.mono (by have pp := PP.out; omega)))
      replace XS : Hid (Box3 v39 bs 28 (.slice sa0 k.nb sc0) (.slice sa1 k.nc sc1) (.slice sa2 k.ns sc2)) := XS.out.keepR hk (.inl (by have pp := PP.out; omega))
      replace XI : Hid (Box3 v39 bi 28 (.slice ia0 k.nb ic0) (.slice ia1 k.nc ic1) (.slice ia2 k.ns ic2)) := XI.out.keepR hk (.inr (Nat.le_refl _))
      replace RA : Hid (Box3 v39 w.heap.size 51 (.slice a0 d.nb c0) (.slice a1 d.nc c1) (.slice a2 d.ns c2)) := RA.out.keepR hk (.inl (by have pp := PP.out; omega))
      replace RB : Hid (Box5 v39 (w.heap.size + 1) 52 (.int .i64 a.kd) (.int .i64 a.x) (.string a.s) (.slice ak a.nk ck) (.int .i64 a.t)) := RB.out.keepR hk (.inl (by have pp := PP.out; omega))
      replace VI : Hid (RowD v39 (markK k 1) ia0 ia1 ia2 ig0 ig1 ig2) := rd
      clear hk hk0 hb rd MK P1 PP P5 P6 P7 P8 bw
      have j0 := XI.out.c0
      have j1 := XI.out.c1
      have j2 := XI.out.c2
      go_wp2_with fail
      refine (HK.out _ _ _ _ _ _ _ VI.out.diskV).mono ?_
      rintro e v40 ⟨rfl, hb⟩
      replace A1 : Hid (Below w.heap.size w v40) := A1.out.trans (hb.mono A1.out.size)
      replace VS : Hid (RowD v40 k sa0 sa1 sa2 sg0 sg1 sg2) := VS.out.below hb
      replace XS : Hid (Box3 v40 bs 28 (.slice sa0 k.nb sc0) (.slice sa1 k.nc sc1) (.slice sa2 k.ns sc2)) := XS.out.below hb
      replace XI : Hid (Box3 v40 bi 28 (.slice ia0 k.nb ic0) (.slice ia1 k.nc ic1) (.slice ia2 k.ns ic2)) := XI.out.below hb
      replace RA : Hid (Box3 v40 w.heap.size 51 (.slice a0 d.nb c0) (.slice a1 d.nc c1) (.slice a2 d.ns c2)) := RA.out.below hb
      replace RB : Hid (Box5 v40 (w.heap.size + 1) 52 (.int .i64 a.kd) (.int .i64 a.x) (.string a.s) (.slice ak a.nk ck) (.int .i64 a.t)) := RB.out.below hb
      replace VI : Hid (RowD v40 (markK k 1) ia0 ia1 ia2 ig0 ig1 ig2) := VI.out.below hb
      clear hb 
      clear j0 j1 j2
      go_wp2_with fail
      go_cut [15, 16] (fun p c wx => ∃ (bh : Nat) (ha0 ha1 ha2 : Option Addr) (hc0 hc1 hc2 hg0 hg1 hg2 : Nat), p = .pointer (some ⟨bh, 0, none⟩) ∧ c = .int .i64 code ∧ Box3 wx bh 28 (.slice ha0 k.nb hc0) (.slice ha1 k.nc hc1) (.slice ha2 k.ns hc2) ∧ RowD wx k ha0 ha1 ha2 hg0 hg1 hg2 ∧ (RowD wx k sa0 sa1 sa2 sg0 sg1 sg2) ∧ (Box3 wx bs 28 (.slice sa0 k.nb sc0) (.slice sa1 k.nc sc1) (.slice sa2 k.ns sc2)) ∧ (Box3 wx bi 28 (.slice ia0 k.nb ic0) (.slice ia1 k.nc ic1) (.slice ia2 k.ns ic2)) ∧ (RowD wx (markK k 1) ia0 ia1 ia2 ig0 ig1 ig2) ∧ Below w.heap.size w wx)
      case first =>
        have hb : Below v40.heap.size v40 v40.drew := (Below.refl _ _).drew
        have H : (Box3 v40.drew w.heap.size 51 (.slice a0 d.nb c0) (.slice a1 d.nc c1) (.slice a2 d.ns c2)) ∧ (Box5 v40.drew (w.heap.size + 1) 52 (.int .i64 a.kd) (.int .i64 a.x) (.string a.s) (.slice ak a.nk ck) (.int .i64 a.t)) := ⟨RA.out.below hb, RB.out.below hb⟩
        replace A1 : Hid (Below w.heap.size w v40.drew) := A1.out.trans (hb.mono A1.out.size)
        replace VS : Hid (RowD v40.drew k sa0 sa1 sa2 sg0 sg1 sg2) := VS.out.below hb
        replace XS : Hid (Box3 v40.drew bs 28 (.slice sa0 k.nb sc0) (.slice sa1 k.nc sc1) (.slice sa2 k.ns sc2)) := XS.out.below hb
        replace XI : Hid (Box3 v40.drew bi 28 (.slice ia0 k.nb ic0) (.slice ia1 k.nc ic1) (.slice ia2 k.ns ic2)) := XI.out.below hb
        replace VI : Hid (RowD v40.drew (markK k 1) ia0 ia1 ia2 ig0 ig1 ig2) := VI.out.below hb
        clear hb RA RB
        refine wp_region_noPanic ?_
        refine wp_region_held_drew (S := fun w' => (Box3 w' w.heap.size 51 (.slice a0 d.nb c0) (.slice a1 d.nc c1) (.slice a2 d.ns c2)) ∧ (Box5 w' (w.heap.size + 1) 52 (.int .i64 a.kd) (.int .i64 a.x) (.string a.s) (.slice ak a.nk ck) (.int .i64 a.t))) (by kernel_rfl) H (fun _ => ?_)
        generalize v40.drew = v41 at *
        refine wpAnyH_take (i := 0) (v := .agg #[.slice a0 d.nb c0, .slice a1 d.nc c1, .slice a2 d.ns c2]) rfl (by kernel_rfl) (by kernel_rfl) (by kernel_rfl) (fun _ _ _ h => h) (Or.inl ⟨by rfl, ?_⟩) H ?_
        · intro w' hSw; have t0 := hSw.1.c0; have t1 := hSw.1.c1; have t2 := hSw.1.c2; clear hSw; go_simp
        change wpAnyH _ _ _ _ _ _ _ { tmps := #[_, _, _, _, _, _, _, _, _, _, _, _, _, _, _, _, _, _, _, _, _, _, _, _, _, _, _, _, _, _, _, _, _, _, _, _, _, _, _, _, _, _, _, _, _, _, _, _, _, _, _, _, _, _, _, _, _, _, _, _, _, _, _, _, _, _, _, _, _, _, _, _, _, _, _, _, _, _, _, _, _, _, _, _, _, _, _, _, _, _, _, _, _, _, _, _, _, _, _, _, _, _, _, _, _, _, _, _, _, _, _, _, _, _, _, _, _, _, _], defers := _ } _
        refine wpAnyH_take (i := 2) (v := .agg #[.int .i64 a.kd, .int .i64 a.x, .string a.s, .slice ak a.nk ck, .int .i64 a.t]) rfl (by kernel_rfl) (by kernel_rfl) (by kernel_rfl) (fun _ _ _ h => h) (Or.inl ⟨by rfl, ?_⟩) H ?_
        · intro w' hSw; have t0 := hSw.2.c0; have t1 := hSw.2.c1; have t2 := hSw.2.c2; have t3 := hSw.2.c3; have t4 := hSw.2.c4; clear hSw; go_simp
        change wpAnyH _ _ _ _ _ _ _ { tmps := #[_, _, _, _, _, _, _, _, _, _, _, _, _, _, _, _, _, _, _, _, _, _, _, _, _, _, _, _, _, _, _, _, _, _, _, _, _, _, _, _, _, _, _, _, _, _, _, _, _, _, _, _, _, _, _, _, _, _, _, _, _, _, _, _, _, _, _, _, _, _, _, _, _, _, _, _, _, _, _, _, _, _, _, _, _, _, _, _, _, _, _, _, _, _, _, _, _, _, _, _, _, _, _, _, _, _, _, _, _, _, _, _, _, _, _, _, _, _, _], defers := _ } _
        refine wpAnyH_ready (rs := [1, 8]) (by kernel_rfl) (by simp) ?_
        refine (AllReadyH.cons rfl (fun KK hK => ?_) (AllReadyH.cons rfl (fun KK hK => ?_) AllReadyH.nil))
        · skip
          go_simp
          refine (TD.out _ (HX.out.below A1.out)).mono ?_
          rintro e v42 ⟨⟨f0, f1, f2, rfl, rd, gd⟩, hb⟩
          replace A1 : Hid (Below w.heap.size w v42) := A1.out.trans (hb.mono A1.out.size)
          replace VS : Hid (RowD v42 k sa0 sa1 sa2 sg0 sg1 sg2) := VS.out.below hb
          replace XS : Hid (Box3 v42 bs 28 (.slice sa0 k.nb sc0) (.slice sa1 k.nc sc1) (.slice sa2 k.ns sc2)) := XS.out.below hb
          replace XI : Hid (Box3 v42 bi 28 (.slice ia0 k.nb ic0) (.slice ia1 k.nc ic1) (.slice ia2 k.ns ic2)) := XI.out.below hb
          replace VI : Hid (RowD v42 (markK k 1) ia0 ia1 ia2 ig0 ig1 ig2) := VI.out.below hb
          replace H : (Box3 v42 w.heap.size 51 (.slice a0 d.nb c0) (.slice a1 d.nc c1) (.slice a2 d.ns c2)) ∧ (Box5 v42 (w.heap.size + 1) 52 (.int .i64 a.kd) (.int .i64 a.x) (.string a.s) (.slice ak a.nk ck) (.int .i64 a.t)) := ⟨H.1.below hb, H.2.below hb⟩
          have V1 : Hid (RowD v42 d (some ⟨f0, 0, none⟩) (some ⟨f1, 0, none⟩) (some ⟨f2, 0, none⟩) f0 f1 f2) := rd
          clear hb rd gd
          refine hK.out _ _ H (fun _ => ?_)
          clear hK KK
          change wpAnyH _ _ _ _ _ _ _ { tmps := #[_, _, _, _, _, _, _, _, _, _, _, _, _, _, _, _, _, _, _, _, _, _, _, _, _, _, _, _, _, _, _, _, _, _, _, _, _, _, _, _, _, _, _, _, _, _, _, _, _, _, _, _, _, _, _, _, _, _, _, _, _, _, _, _, _, _, _, _, _, _, _, _, _, _, _, _, _, _, _, _, _, _, _, _, _, _, _, _, _, _, _, _, _, _, _, _, _, _, _, _, _, _, _, _, _, _, _, _, _, _, _, _, _, _, _, _, _, _, _], defers := _ } _
          refine wpAnyH_ready (rs := [3, 8]) (by kernel_rfl) (by simp) ?_
          refine (AllReadyH.cons rfl (fun KK hK => ?_) (AllReadyH.cons rfl (fun KK hK => ?_) AllReadyH.nil))
          · skip
            go_simp
            refine (TC.out _ (HY.out.below A1.out)).mono ?_
            rintro e v43 ⟨⟨fb, rfl, rd, gd⟩, hb⟩
            replace A1 : Hid (Below w.heap.size w v43) := A1.out.trans (hb.mono A1.out.size)
            replace VS : Hid (RowD v43 k sa0 sa1 sa2 sg0 sg1 sg2) := VS.out.below hb
            replace XS : Hid (Box3 v43 bs 28 (.slice sa0 k.nb sc0) (.slice sa1 k.nc sc1) (.slice sa2 k.ns sc2)) := XS.out.below hb
            replace XI : Hid (Box3 v43 bi 28 (.slice ia0 k.nb ic0) (.slice ia1 k.nc ic1) (.slice ia2 k.ns ic2)) := XI.out.below hb
            replace VI : Hid (RowD v43 (markK k 1) ia0 ia1 ia2 ig0 ig1 ig2) := VI.out.below hb
            replace V1 : Hid (RowD v43 d (some ⟨f0, 0, none⟩) (some ⟨f1, 0, none⟩) (some ⟨f2, 0, none⟩) f0 f1 f2) := V1.out.below hb
            replace H : (Box3 v43 w.heap.size 51 (.slice a0 d.nb c0) (.slice a1 d.nc c1) (.slice a2 d.ns c2)) ∧ (Box5 v43 (w.heap.size + 1) 52 (.int .i64 a.kd) (.int .i64 a.x) (.string a.s) (.slice ak a.nk ck) (.int .i64 a.t)) := ⟨H.1.below hb, H.2.below hb⟩
            have V2 : Hid ((v43).rowIs fb 4 a.nk (fun i => .bool (a.K i))) := rd
            clear hb rd gd
            refine hK.out _ _ H (fun _ => ?_)
            clear hK KK
            change wpAnyH _ _ _ _ _ _ _ { tmps := #[_, _, _, _, _, _, _, _, _, _, _, _, _, _, _, _, _, _, _, _, _, _, _, _, _, _, _, _, _, _, _, _, _, _, _, _, _, _, _, _, _, _, _, _, _, _, _, _, _, _, _, _, _, _, _, _, _, _, _, _, _, _, _, _, _, _, _, _, _, _, _, _, _, _, _, _, _, _, _, _, _, _, _, _, _, _, _, _, _, _, _, _, _, _, _, _, _, _, _, _, _, _, _, _, _, _, _, _, _, _, _, _, _, _, _, _, _, _, _], defers := _ } _
            refine wpAnyH_ready (rs := [4, 8]) (by kernel_rfl) (by simp) ?_
            refine (AllReadyH.cons rfl (fun KK hK => ?_) (AllReadyH.cons rfl (fun KK hK => ?_) AllReadyH.nil))
            · skip
              go_simp
              refine (IY.out _ _ _ _ _ V1.out.diskV (Bools.ofRow V2.out) (HE.out.below A1.out)).mono ?_
              rintro e v44 ⟨⟨ha0, ha1, ha2, hc0, hc1, hc2, hg0, hg1, hg2, rfl, rd, hi0, hi1, hi2⟩, hb⟩
              replace A1 : Hid (Below w.heap.size w v44) := A1.out.trans (hb.mono A1.out.size)
              replace VS : Hid (RowD v44 k sa0 sa1 sa2 sg0 sg1 sg2) := VS.out.below hb
              replace XS : Hid (Box3 v44 bs 28 (.slice sa0 k.nb sc0) (.slice sa1 k.nc sc1) (.slice sa2 k.ns sc2)) := XS.out.below hb
              replace XI : Hid (Box3 v44 bi 28 (.slice ia0 k.nb ic0) (.slice ia1 k.nc ic1) (.slice ia2 k.ns ic2)) := XI.out.below hb
              replace VI : Hid (RowD v44 (markK k 1) ia0 ia1 ia2 ig0 ig1 ig2) := VI.out.below hb
              replace V1 : Hid (RowD v44 d (some ⟨f0, 0, none⟩) (some ⟨f1, 0, none⟩) (some ⟨f2, 0, none⟩) f0 f1 f2) := V1.out.below hb
              replace V2 : Hid ((v44).rowIs fb 4 a.nk (fun i => .bool (a.K i))) := World.rowIs.of_block V2.out (hb.block _ (World.rowIs.lt V2.out))
              replace H : (Box3 v44 w.heap.size 51 (.slice a0 d.nb c0) (.slice a1 d.nc c1) (.slice a2 d.ns c2)) ∧ (Box5 v44 (w.heap.size + 1) 52 (.int .i64 a.kd) (.int .i64 a.x) (.string a.s) (.slice ak a.nk ck) (.int .i64 a.t)) := ⟨H.1.below hb, H.2.below hb⟩
              have VH : Hid (RowD v44 k ha0 ha1 ha2 hg0 hg1 hg2) := rd
              clear hb rd
              clear hi0 hi1 hi2
              clear V1 V2
              refine hK.out _ _ H (fun _ => ?_)
              clear hK KK
              change wpAnyH _ _ _ _ _ _ _ { tmps := #[_, _, _, _, _, _, _, _, _, _, _, _, _, _, _, _, _, _, _, _, _, _, _, _, _, _, _, _, _, _, _, _, _, _, _, _, _, _, _, _, _, _, _, _, _, _, _, _, _, _, _, _, _, _, _, _, _, _, _, _, _, _, _, _, _, _, _, _, _, _, _, _, _, _, _, _, _, _, _, _, _, _, _, _, _, _, _, _, _, _, _, _, _, _, _, _, _, _, _, _, _, _, _, _, _, _, _, _, _, _, _, _, _, _, _, _, _, _, _], defers := _ } _
              refine wpAnyH_take (i := 5) (v := .tuple #[.agg #[.slice ha0 k.nb hc0, .slice ha1 k.nc hc1, .slice ha2 k.ns hc2], .int .i64 code]) rfl (by kernel_rfl) (by kernel_rfl) (by kernel_rfl) (fun _ _ _ h => h) (Or.inl ⟨by rfl, ?_⟩) H ?_
              · intro w' hSw; go_simp
              change wpAnyH _ _ _ _ _ _ _ { tmps := #[_, _, _, _, _, _, _, _, _, _, _, _, _, _, _, _, _, _, _, _, _, _, _, _, _, _, _, _, _, _, _, _, _, _, _, _, _, _, _, _, _, _, _, _, _, _, _, _, _, _, _, _, _, _, _, _, _, _, _, _, _, _, _, _, _, _, _, _, _, _, _, _, _, _, _, _, _, _, _, _, _, _, _, _, _, _, _, _, _, _, _, _, _, _, _, _, _, _, _, _, _, _, _, _, _, _, _, _, _, _, _, _, _, _, _, _, _, _, _], defers := _ } _
              refine wpAnyH_take (i := 6) (v := .agg #[.slice ha0 k.nb hc0, .slice ha1 k.nc hc1, .slice ha2 k.ns hc2]) rfl (by kernel_rfl) (by kernel_rfl) (by kernel_rfl) (fun _ _ _ h => h) (Or.inl ⟨by rfl, ?_⟩) H ?_
              · intro w' hSw; go_simp
              change wpAnyH _ _ _ _ _ _ _ { tmps := #[_, _, _, _, _, _, _, _, _, _, _, _, _, _, _, _, _, _, _, _, _, _, _, _, _, _, _, _, _, _, _, _, _, _, _, _, _, _, _, _, _, _, _, _, _, _, _, _, _, _, _, _, _, _, _, _, _, _, _, _, _, _, _, _, _, _, _, _, _, _, _, _, _, _, _, _, _, _, _, _, _, _, _, _, _, _, _, _, _, _, _, _, _, _, _, _, _, _, _, _, _, _, _, _, _, _, _, _, _, _, _, _, _, _, _, _, _, _, _], defers := _ } _
              refine wpAnyH_take (i := 7) (v := .int .i64 code) rfl (by kernel_rfl) (by kernel_rfl) (by kernel_rfl) (fun _ _ _ h => h) (Or.inl ⟨by rfl, ?_⟩) H ?_
              · intro w' hSw; go_simp
              change wpAnyH _ _ _ _ _ _ _ { tmps := #[_, _, _, _, _, _, _, _, _, _, _, _, _, _, _, _, _, _, _, _, _, _, _, _, _, _, _, _, _, _, _, _, _, _, _, _, _, _, _, _, _, _, _, _, _, _, _, _, _, _, _, _, _, _, _, _, _, _, _, _, _, _, _, _, _, _, _, _, _, _, _, _, _, _, _, _, _, _, _, _, _, _, _, _, _, _, _, _, _, _, _, _, _, _, _, _, _, _, _, _, _, _, _, _, _, _, _, _, _, _, _, _, _, _, _, _, _, _, _], defers := _ } _
              refine wpAnyH_ready (rs := [8]) (by kernel_rfl) (by simp) ?_
              refine (AllReadyH.cons rfl (fun KK hK => ?_) AllReadyH.nil)
              go_simp
              have hb : Below v44.heap.size v44 (v44.alloc (.cells #[.slice none 0 0, .slice none 0 0, .slice none 0 0] 28)) := (Below.refl _ _).alloc (Nat.le_refl _) _
              have PZ : Hid (Box3 (v44.alloc (.cells #[.slice none 0 0, .slice none 0 0, .slice none 0 0] 28)) v44.heap.size 28 (.slice none 0 0) (.slice none 0 0) (.slice none 0 0)) := Box3.made _ _ _ _ _
              have LA : Hid (w.heap.size ≤ v44.heap.size) := A1.out.size
              have LRA : Hid (w.heap.size < v44.heap.size) := H.1.lt
              have LRB : Hid (w.heap.size + 1 < v44.heap.size) := H.2.lt
              have LVS : Hid (LtD k sg0 sg1 sg2 v44.heap.size) := VS.out.ltD
              have LXS : Hid (bs < v44.heap.size) := XS.out.lt
              have LXI : Hid (bi < v44.heap.size) := XI.out.lt
              have LVI : Hid (LtD (markK k 1) ig0 ig1 ig2 v44.heap.size) := VI.out.ltD
              have LVH : Hid (LtD k hg0 hg1 hg2 v44.heap.size) := VH.out.ltD
              replace H : (Box3 (v44.alloc (.cells #[.slice none 0 0, .slice none 0 0, .slice none 0 0] 28)) w.heap.size 51 (.slice a0 d.nb c0) (.slice a1 d.nc c1) (.slice a2 d.ns c2)) ∧ (Box5 (v44.alloc (.cells #[.slice none 0 0, .slice none 0 0, .slice none 0 0] 28)) (w.heap.size + 1) 52 (.int .i64 a.kd) (.int .i64 a.x) (.string a.s) (.slice ak a.nk ck) (.int .i64 a.t)) := ⟨H.1.below hb, H.2.below hb⟩
              refine hK.out _ _ H (fun _ => ?_)
              clear hK KK
              change wpAnyH _ _ _ _ _ _ _ { tmps := #[_, _, _, _, _, _, _, _, _, _, _, _, _, _, _, _, _, _, _, _, _, _, _, _, _, _, _, _, _, _, _, _, _, _, _, _, _, _, _, _, _, _, _, _, _, _, _, _, _, _, _, _, _, _, _, _, _, _, _, _, _, _, _, _, _, _, _, _, _, _, _, _, _, _, _, _, _, _, _, _, _, _, _, _, _, _, _, _, _, _, _, _, _, _, _, _, _, _, _, _, _, _, _, _, _, _, _, _, _, _, _, _, _, _, _, _, _, _, _], defers := _ } _
              generalize (v44.alloc (.cells #[.slice none 0 0, .slice none 0 0, .slice none 0 0] 28)) = v45 at *
              replace A1 : Hid (Below w.heap.size w v45) := A1.out.trans (hb.mono A1.out.size)
              replace VS : Hid (RowD v45 k sa0 sa1 sa2 sg0 sg1 sg2) := VS.out.below hb
              replace XS : Hid (Box3 v45 bs 28 (.slice sa0 k.nb sc0) (.slice sa1 k.nc sc1) (.slice sa2 k.ns sc2)) := XS.out.below hb
              replace XI : Hid (Box3 v45 bi 28 (.slice ia0 k.nb ic0) (.slice ia1 k.nc ic1) (.slice ia2 k.ns ic2)) := XI.out.below hb
              replace VI : Hid (RowD v45 (markK k 1) ia0 ia1 ia2 ig0 ig1 ig2) := VI.out.below hb
              replace VH : Hid (RowD v45 k ha0 ha1 ha2 hg0 hg1 hg2) := VH.out.below hb
              clear hb
              obtain ⟨pb, hpb⟩ : ∃ bx, bx = v44.heap.size := ⟨_, rfl⟩
              rw [← hpb] at LA PZ LRA LRB LVS LXS LXI LVI LVH ⊢
              clear hpb
              refine wpAnyH_ready (rs := [9]) (by kernel_rfl) (by simp) ?_
              refine AllReadyH.cons rfl (fun KK hK => ?_) AllReadyH.nil
              rw [if_pos (by rfl)]
              refine wp_store_mid 28 (.tmp 15) (.tmp 100) rfl pb 0 #[.slice ha0 k.nb hc0, .slice ha1 k.nc hc1, .slice ha2 k.ns hc2] rfl rfl PZ.out.there Tryd.sizeDk (oneSl3 _ _ _ _ _ _ _ _ _) ?_
              have ho : OnlyB pb v45 (v45.setCells pb 0 [.slice ha0 k.nb hc0, .slice ha1 k.nc hc1, .slice ha2 k.ns hc2]) := OnlyB.stored3 _ _ _ _ _
              have hk := ho.keepR
              have XN : Hid (Box3 (v45.setCells pb 0 [.slice ha0 k.nb hc0, .slice ha1 k.nc hc1, .slice ha2 k.ns hc2]) pb 28 (.slice ha0 k.nb hc0) (.slice ha1 k.nc hc1) (.slice ha2 k.ns hc2)) := PZ.out.stored _ _ _
              have sz1 : v45.heap.size ≤ (v45.setCells pb 0 [.slice ha0 k.nb hc0, .slice ha1 k.nc hc1, .slice ha2 k.ns hc2]).heap.size := ho.size
              replace A1 : Hid (Below w.heap.size w (v45.setCells pb 0 [.slice ha0 k.nb hc0, .slice ha1 k.nc hc1, .slice ha2 k.ns hc2])) := A1.out.trans (ho.toBelow LA.out A1.out.size)
              replace VS : Hid (RowD (v45.setCells pb 0 [.slice ha0 k.nb hc0, .slice ha1 k.nc hc1, .slice ha2 k.ns hc2]) k sa0 sa1 sa2 sg0 sg1 sg2) := VS.out.keepR hk (.inl LVS.out)
              replace XS : Hid (Box3 (v45.setCells pb 0 [.slice ha0 k.nb hc0, .slice ha1 k.nc hc1, .slice ha2 k.ns hc2]) bs 28 (.slice sa0 k.nb sc0) (.slice sa1 k.nc sc1) (.slice sa2 k.ns sc2)) := XS.out.keepR hk (.inl LXS.out)
              replace XI : Hid (Box3 (v45.setCells pb 0 [.slice ha0 k.nb hc0, .slice ha1 k.nc hc1, .slice ha2 k.ns hc2]) bi 28 (.slice ia0 k.nb ic0) (.slice ia1 k.nc ic1) (.slice ia2 k.ns ic2)) := XI.out.keepR hk (.inl LXI.out)
              replace VI : Hid (RowD (v45.setCells pb 0 [.slice ha0 k.nb hc0, .slice ha1 k.nc hc1, .slice ha2 k.ns hc2]) (markK k 1) ia0 ia1 ia2 ig0 ig1 ig2) := VI.out.keepR hk (.inl LVI.out)
              replace VH : Hid (RowD (v45.setCells pb 0 [.slice ha0 k.nb hc0, .slice ha1 k.nc hc1, .slice ha2 k.ns hc2]) k ha0 ha1 ha2 hg0 hg1 hg2) := VH.out.keepR hk (.inl LVH.out)
              replace H : (Box3 (v45.setCells pb 0 [.slice ha0 k.nb hc0, .slice ha1 k.nc hc1, .slice ha2 k.ns hc2]) w.heap.size 51 (.slice a0 d.nb c0) (.slice a1 d.nc c1) (.slice a2 d.ns c2)) ∧ (Box5 (v45.setCells pb 0 [.slice ha0 k.nb hc0, .slice ha1 k.nc hc1, .slice ha2 k.ns hc2]) (w.heap.size + 1) 52 (.int .i64 a.kd) (.int .i64 a.x) (.string a.s) (.slice ak a.nk ck) (.int .i64 a.t)) := ⟨H.1.keepR hk (.inl LRA.out), H.2.keepR hk (.inl LRB.out)⟩
              refine hK.out _ _ H (fun _ => ?_)
              clear hK KK PZ ho hk sz1
              generalize (v45.setCells pb 0 [.slice ha0 k.nb hc0, .slice ha1 k.nc hc1, .slice ha2 k.ns hc2]) = v46 at *
              change wpAnyH _ _ _ _ _ _ _ { tmps := #[_, _, _, _, _, _, _, _, _, _, _, _, _, _, _, _, _, _, _, _, _, _, _, _, _, _, _, _, _, _, _, _, _, _, _, _, _, _, _, _, _, _, _, _, _, _, _, _, _, _, _, _, _, _, _, _, _, _, _, _, _, _, _, _, _, _, _, _, _, _, _, _, _, _, _, _, _, _, _, _, _, _, _, _, _, _, _, _, _, _, _, _, _, _, _, _, _, _, _, _, _, _, _, _, _, _, _, _, _, _, _, _, _, _, _, _, _, _, _], defers := _ } _
              refine wpAnyH_take (i := 10) (v := .int .i64 code) rfl (by kernel_rfl) (by kernel_rfl) (by kernel_rfl) (fun _ _ _ h => h) (Or.inl ⟨by rfl, ?_⟩) H ?_
              · intro w' hSw; go_simp
              change wpAnyH _ _ _ _ _ _ _ { tmps := #[_, _, _, _, _, _, _, _, _, _, _, _, _, _, _, _, _, _, _, _, _, _, _, _, _, _, _, _, _, _, _, _, _, _, _, _, _, _, _, _, _, _, _, _, _, _, _, _, _, _, _, _, _, _, _, _, _, _, _, _, _, _, _, _, _, _, _, _, _, _, _, _, _, _, _, _, _, _, _, _, _, _, _, _, _, _, _, _, _, _, _, _, _, _, _, _, _, _, _, _, _, _, _, _, _, _, _, _, _, _, _, _, _, _, _, _, _, _, _], defers := _ } _
              refine wpAnyH_done (by kernel_rfl) ?_ _
              refine NoPanic.normal ?_
              change Exit.then _ _ Exit.normal { tmps := #[_, _, _, _, _, _, _, _, _, _, _, _, _, _, _, _, _, _, _, _, _, _, _, _, _, _, _, _, _, _, _, _, _, _, _, _, _, _, _, _, _, _, _, _, _, _, _, _, _, _, _, _, _, _, _, _, _, _, _, _, _, _, _, _, _, _, _, _, _, _, _, _, _, _, _, _, _, _, _, _, _, _, _, _, _, _, _, _, _, _, _, _, _, _, _, _, _, _, _, _, _, _, _, _, _, _, _, _, _, _, _, _, _, _, _, _, _, _, _], defers := _ } _
              go_wp2_with fail
              go_meet
              exact ⟨pb, ha0, ha1, ha2, hc0, hc1, hc2, hg0, hg1, hg2, rfl, rfl, XN.out, VH.out, VS.out, XS.out, XI.out, VI.out, A1.out⟩
            · skip
              go_simp
              have hb : Below v43.heap.size v43 (v43.alloc (.cells #[.slice none 0 0, .slice none 0 0, .slice none 0 0] 28)) := (Below.refl _ _).alloc (Nat.le_refl _) _
              have PZ : Hid (Box3 (v43.alloc (.cells #[.slice none 0 0, .slice none 0 0, .slice none 0 0] 28)) v43.heap.size 28 (.slice none 0 0) (.slice none 0 0) (.slice none 0 0)) := Box3.made _ _ _ _ _
              have LA : Hid (w.heap.size ≤ v43.heap.size) := A1.out.size
              have LRA : Hid (w.heap.size < v43.heap.size) := H.1.lt
              have LRB : Hid (w.heap.size + 1 < v43.heap.size) := H.2.lt
              have LVS : Hid (LtD k sg0 sg1 sg2 v43.heap.size) := VS.out.ltD
              have LXS : Hid (bs < v43.heap.size) := XS.out.lt
              have LXI : Hid (bi < v43.heap.size) := XI.out.lt
              have LVI : Hid (LtD (markK k 1) ig0 ig1 ig2 v43.heap.size) := VI.out.ltD
              replace H : (Box3 (v43.alloc (.cells #[.slice none 0 0, .slice none 0 0, .slice none 0 0] 28)) w.heap.size 51 (.slice a0 d.nb c0) (.slice a1 d.nc c1) (.slice a2 d.ns c2)) ∧ (Box5 (v43.alloc (.cells #[.slice none 0 0, .slice none 0 0, .slice none 0 0] 28)) (w.heap.size + 1) 52 (.int .i64 a.kd) (.int .i64 a.x) (.string a.s) (.slice ak a.nk ck) (.int .i64 a.t)) := ⟨H.1.below hb, H.2.below hb⟩
              refine hK.out _ _ H (fun _ => ?_)
              clear hK KK
              change wpAnyH _ _ _ _ _ _ _ { tmps := #[_, _, _, _, _, _, _, _, _, _, _, _, _, _, _, _, _, _, _, _, _, _, _, _, _, _, _, _, _, _, _, _, _, _, _, _, _, _, _, _, _, _, _, _, _, _, _, _, _, _, _, _, _, _, _, _, _, _, _, _, _, _, _, _, _, _, _, _, _, _, _, _, _, _, _, _, _, _, _, _, _, _, _, _, _, _, _, _, _, _, _, _, _, _, _, _, _, _, _, _, _, _, _, _, _, _, _, _, _, _, _, _, _, _, _, _, _, _, _], defers := _ } _
              generalize (v43.alloc (.cells #[.slice none 0 0, .slice none 0 0, .slice none 0 0] 28)) = v47 at *
              replace A1 : Hid (Below w.heap.size w v47) := A1.out.trans (hb.mono A1.out.size)
              replace VS : Hid (RowD v47 k sa0 sa1 sa2 sg0 sg1 sg2) := VS.out.below hb
              replace XS : Hid (Box3 v47 bs 28 (.slice sa0 k.nb sc0) (.slice sa1 k.nc sc1) (.slice sa2 k.ns sc2)) := XS.out.below hb
              replace XI : Hid (Box3 v47 bi 28 (.slice ia0 k.nb ic0) (.slice ia1 k.nc ic1) (.slice ia2 k.ns ic2)) := XI.out.below hb
              replace VI : Hid (RowD v47 (markK k 1) ia0 ia1 ia2 ig0 ig1 ig2) := VI.out.below hb
              replace V1 : Hid (RowD v47 d (some ⟨f0, 0, none⟩) (some ⟨f1, 0, none⟩) (some ⟨f2, 0, none⟩) f0 f1 f2) := V1.out.below hb
              replace V2 : Hid ((v47).rowIs fb 4 a.nk (fun i => .bool (a.K i))) := World.rowIs.of_block V2.out (hb.block _ (World.rowIs.lt V2.out))
              clear hb
              obtain ⟨pb, hpb⟩ : ∃ bx, bx = v43.heap.size := ⟨_, rfl⟩
              rw [← hpb] at LA PZ LRA LRB LVS LXS LXI LVI ⊢
              clear hpb
              refine wpAnyH_ready (rs := [4]) (by kernel_rfl) (by simp) ?_
              refine (AllReadyH.cons rfl (fun KK hK => ?_) AllReadyH.nil)
              go_simp
              have PBL : Hid (pb < v47.heap.size) := PZ.out.lt
              refine (IY.out _ _ _ _ _ V1.out.diskV (Bools.ofRow V2.out) (HE.out.below A1.out)).mono ?_
              rintro e v48 ⟨⟨ha0, ha1, ha2, hc0, hc1, hc2, hg0, hg1, hg2, rfl, rd, hi0, hi1, hi2⟩, hb⟩
              have GR : Hid (GeD k hg0 hg1 hg2 (pb + 1)) := GeD.mono ⟨hi0, hi1, hi2⟩ PBL.out
              replace A1 : Hid (Below w.heap.size w v48) := A1.out.trans (hb.mono A1.out.size)
              replace VS : Hid (RowD v48 k sa0 sa1 sa2 sg0 sg1 sg2) := VS.out.below hb
              replace XS : Hid (Box3 v48 bs 28 (.slice sa0 k.nb sc0) (.slice sa1 k.nc sc1) (.slice sa2 k.ns sc2)) := XS.out.below hb
              replace XI : Hid (Box3 v48 bi 28 (.slice ia0 k.nb ic0) (.slice ia1 k.nc ic1) (.slice ia2 k.ns ic2)) := XI.out.below hb
              replace VI : Hid (RowD v48 (markK k 1) ia0 ia1 ia2 ig0 ig1 ig2) := VI.out.below hb
              replace V1 : Hid (RowD v48 d (some ⟨f0, 0, none⟩) (some ⟨f1, 0, none⟩) (some ⟨f2, 0, none⟩) f0 f1 f2) := V1.out.below hb
              replace V2 : Hid ((v48).rowIs fb 4 a.nk (fun i => .bool (a.K i))) := World.rowIs.of_block V2.out (hb.block _ (World.rowIs.lt V2.out))
              replace PZ : Hid (Box3 v48 pb 28 (.slice none 0 0) (.slice none 0 0) (.slice none 0 0)) := PZ.out.below hb
              replace H : (Box3 v48 w.heap.size 51 (.slice a0 d.nb c0) (.slice a1 d.nc c1) (.slice a2 d.ns c2)) ∧ (Box5 v48 (w.heap.size + 1) 52 (.int .i64 a.kd) (.int .i64 a.x) (.string a.s) (.slice ak a.nk ck) (.int .i64 a.t)) := ⟨H.1.below hb, H.2.below hb⟩
              have VH : Hid (RowD v48 k ha0 ha1 ha2 hg0 hg1 hg2) := rd
              clear hb rd PBL
              clear hi0 hi1 hi2
              clear V1 V2
              refine hK.out _ _ H (fun _ => ?_)
              clear hK KK
              change wpAnyH _ _ _ _ _ _ _ { tmps := #[_, _, _, _, _, _, _, _, _, _, _, _, _, _, _, _, _, _, _, _, _, _, _, _, _, _, _, _, _, _, _, _, _, _, _, _, _, _, _, _, _, _, _, _, _, _, _, _, _, _, _, _, _, _, _, _, _, _, _, _, _, _, _, _, _, _, _, _, _, _, _, _, _, _, _, _, _, _, _, _, _, _, _, _, _, _, _, _, _, _, _, _, _, _, _, _, _, _, _, _, _, _, _, _, _, _, _, _, _, _, _, _, _, _, _, _, _, _, _], defers := _ } _
              refine wpAnyH_take (i := 5) (v := .tuple #[.agg #[.slice ha0 k.nb hc0, .slice ha1 k.nc hc1, .slice ha2 k.ns hc2], .int .i64 code]) rfl (by kernel_rfl) (by kernel_rfl) (by kernel_rfl) (fun _ _ _ h => h) (Or.inl ⟨by rfl, ?_⟩) H ?_
              · intro w' hSw; go_simp
              change wpAnyH _ _ _ _ _ _ _ { tmps := #[_, _, _, _, _, _, _, _, _, _, _, _, _, _, _, _, _, _, _, _, _, _, _, _, _, _, _, _, _, _, _, _, _, _, _, _, _, _, _, _, _, _, _, _, _, _, _, _, _, _, _, _, _, _, _, _, _, _, _, _, _, _, _, _, _, _, _, _, _, _, _, _, _, _, _, _, _, _, _, _, _, _, _, _, _, _, _, _, _, _, _, _, _, _, _, _, _, _, _, _, _, _, _, _, _, _, _, _, _, _, _, _, _, _, _, _, _, _, _], defers := _ } _
              refine wpAnyH_take (i := 6) (v := .agg #[.slice ha0 k.nb hc0, .slice ha1 k.nc hc1, .slice ha2 k.ns hc2]) rfl (by kernel_rfl) (by kernel_rfl) (by kernel_rfl) (fun _ _ _ h => h) (Or.inl ⟨by rfl, ?_⟩) H ?_
              · intro w' hSw; go_simp
              change wpAnyH _ _ _ _ _ _ _ { tmps := #[_, _, _, _, _, _, _, _, _, _, _, _, _, _, _, _, _, _, _, _, _, _, _, _, _, _, _, _, _, _, _, _, _, _, _, _, _, _, _, _, _, _, _, _, _, _, _, _, _, _, _, _, _, _, _, _, _, _, _, _, _, _, _, _, _, _, _, _, _, _, _, _, _, _, _, _, _, _, _, _, _, _, _, _, _, _, _, _, _, _, _, _, _, _, _, _, _, _, _, _, _, _, _, _, _, _, _, _, _, _, _, _, _, _, _, _, _, _, _], defers := _ } _
              refine wpAnyH_take (i := 7) (v := .int .i64 code) rfl (by kernel_rfl) (by kernel_rfl) (by kernel_rfl) (fun _ _ _ h => h) (Or.inl ⟨by rfl, ?_⟩) H ?_
              · intro w' hSw; go_simp
              change wpAnyH _ _ _ _ _ _ _ { tmps := #[_, _, _, _, _, _, _, _, _, _, _, _, _, _, _, _, _, _, _, _, _, _, _, _, _, _, _, _, _, _, _, _, _, _, _, _, _, _, _, _, _, _, _, _, _, _, _, _, _, _, _, _, _, _, _, _, _, _, _, _, _, _, _, _, _, _, _, _, _, _, _, _, _, _, _, _, _, _, _, _, _, _, _, _, _, _, _, _, _, _, _, _, _, _, _, _, _, _, _, _, _, _, _, _, _, _, _, _, _, _, _, _, _, _, _, _, _, _, _], defers := _ } _
              refine wpAnyH_ready (rs := [9]) (by kernel_rfl) (by simp) ?_
              refine AllReadyH.cons rfl (fun KK hK => ?_) AllReadyH.nil
              rw [if_pos (by rfl)]
              refine wp_store_mid 28 (.tmp 15) (.tmp 100) rfl pb 0 #[.slice ha0 k.nb hc0, .slice ha1 k.nc hc1, .slice ha2 k.ns hc2] rfl rfl PZ.out.there Tryd.sizeDk (oneSl3 _ _ _ _ _ _ _ _ _) ?_
              have ho : OnlyB pb v48 (v48.setCells pb 0 [.slice ha0 k.nb hc0, .slice ha1 k.nc hc1, .slice ha2 k.ns hc2]) := OnlyB.stored3 _ _ _ _ _
              have hk := ho.keepR
              have XN : Hid (Box3 (v48.setCells pb 0 [.slice ha0 k.nb hc0, .slice ha1 k.nc hc1, .slice ha2 k.ns hc2]) pb 28 (.slice ha0 k.nb hc0) (.slice ha1 k.nc hc1) (.slice ha2 k.ns hc2)) := PZ.out.stored _ _ _
              have sz1 : v48.heap.size ≤ (v48.setCells pb 0 [.slice ha0 k.nb hc0, .slice ha1 k.nc hc1, .slice ha2 k.ns hc2]).heap.size := ho.size
              replace A1 : Hid (Below w.heap.size w (v48.setCells pb 0 [.slice ha0 k.nb hc0, .slice ha1 k.nc hc1, .slice ha2 k.ns hc2])) := A1.out.trans (ho.toBelow LA.out A1.out.size)
              replace VS : Hid (RowD (v48.setCells pb 0 [.slice ha0 k.nb hc0, .slice ha1 k.nc hc1, .slice ha2 k.ns hc2]) k sa0 sa1 sa2 sg0 sg1 sg2) := VS.out.keepR hk (.inl LVS.out)
              replace XS : Hid (Box3 (v48.setCells pb 0 [.slice ha0 k.nb hc0, .slice ha1 k.nc hc1, .slice ha2 k.ns hc2]) bs 28 (.slice sa0 k.nb sc0) (.slice sa1 k.nc sc1) (.slice sa2 k.ns sc2)) := XS.out.keepR hk (.inl LXS.out)
              replace XI : Hid (Box3 (v48.setCells pb 0 [.slice ha0 k.nb hc0, .slice ha1 k.nc hc1, .slice ha2 k.ns hc2]) bi 28 (.slice ia0 k.nb ic0) (.slice ia1 k.nc ic1) (.slice ia2 k.ns ic2)) := XI.out.keepR hk (.inl LXI.out)
              replace VI : Hid (RowD (v48.setCells pb 0 [.slice ha0 k.nb hc0, .slice ha1 k.nc hc1, .slice ha2 k.ns hc2]) (markK k 1) ia0 ia1 ia2 ig0 ig1 ig2) := VI.out.keepR hk (.inl LVI.out)
              replace VH : Hid (RowD (v48.setCells pb 0 [.slice ha0 k.nb hc0, .slice ha1 k.nc hc1, .slice ha2 k.ns hc2]) k ha0 ha1 ha2 hg0 hg1 hg2) := VH.out.keepR hk (.inr GR.out)
              replace H : (Box3 (v48.setCells pb 0 [.slice ha0 k.nb hc0, .slice ha1 k.nc hc1, .slice ha2 k.ns hc2]) w.heap.size 51 (.slice a0 d.nb c0) (.slice a1 d.nc c1) (.slice a2 d.ns c2)) ∧ (Box5 (v48.setCells pb 0 [.slice ha0 k.nb hc0, .slice ha1 k.nc hc1, .slice ha2 k.ns hc2]) (w.heap.size + 1) 52 (.int .i64 a.kd) (.int .i64 a.x) (.string a.s) (.slice ak a.nk ck) (.int .i64 a.t)) := ⟨H.1.keepR hk (.inl LRA.out), H.2.keepR hk (.inl LRB.out)⟩
              refine hK.out _ _ H (fun _ => ?_)
              clear hK KK PZ ho hk sz1
              generalize (v48.setCells pb 0 [.slice ha0 k.nb hc0, .slice ha1 k.nc hc1, .slice ha2 k.ns hc2]) = v49 at *
              change wpAnyH _ _ _ _ _ _ _ { tmps := #[_, _, _, _, _, _, _, _, _, _, _, _, _, _, _, _, _, _, _, _, _, _, _, _, _, _, _, _, _, _, _, _, _, _, _, _, _, _, _, _, _, _, _, _, _, _, _, _, _, _, _, _, _, _, _, _, _, _, _, _, _, _, _, _, _, _, _, _, _, _, _, _, _, _, _, _, _, _, _, _, _, _, _, _, _, _, _, _, _, _, _, _, _, _, _, _, _, _, _, _, _, _, _, _, _, _, _, _, _, _, _, _, _, _, _, _, _, _, _], defers := _ } _
              refine wpAnyH_take (i := 10) (v := .int .i64 code) rfl (by kernel_rfl) (by kernel_rfl) (by kernel_rfl) (fun _ _ _ h => h) (Or.inl ⟨by rfl, ?_⟩) H ?_
              · intro w' hSw; go_simp
              change wpAnyH _ _ _ _ _ _ _ { tmps := #[_, _, _, _, _, _, _, _, _, _, _, _, _, _, _, _, _, _, _, _, _, _, _, _, _, _, _, _, _, _, _, _, _, _, _, _, _, _, _, _, _, _, _, _, _, _, _, _, _, _, _, _, _, _, _, _, _, _, _, _, _, _, _, _, _, _, _, _, _, _, _, _, _, _, _, _, _, _, _, _, _, _, _, _, _, _, _, _, _, _, _, _, _, _, _, _, _, _, _, _, _, _, _, _, _, _, _, _, _, _, _, _, _, _, _, _, _, _, _], defers := _ } _
              refine wpAnyH_done (by kernel_rfl) ?_ _
              refine NoPanic.normal ?_
              change Exit.then _ _ Exit.normal { tmps := #[_, _, _, _, _, _, _, _, _, _, _, _, _, _, _, _, _, _, _, _, _, _, _, _, _, _, _, _, _, _, _, _, _, _, _, _, _, _, _, _, _, _, _, _, _, _, _, _, _, _, _, _, _, _, _, _, _, _, _, _, _, _, _, _, _, _, _, _, _, _, _, _, _, _, _, _, _, _, _, _, _, _, _, _, _, _, _, _, _, _, _, _, _, _, _, _, _, _, _, _, _, _, _, _, _, _, _, _, _, _, _, _, _, _, _, _, _, _, _], defers := _ } _
              go_wp2_with fail
              go_meet
              exact ⟨pb, ha0, ha1, ha2, hc0, hc1, hc2, hg0, hg1, hg2, rfl, rfl, XN.out, VH.out, VS.out, XS.out, XI.out, VI.out, A1.out⟩
          · skip
            go_simp
            have hb : Below v42.heap.size v42 (v42.alloc (.cells #[.slice none 0 0, .slice none 0 0, .slice none 0 0] 28)) := (Below.refl _ _).alloc (Nat.le_refl _) _
            have PZ : Hid (Box3 (v42.alloc (.cells #[.slice none 0 0, .slice none 0 0, .slice none 0 0] 28)) v42.heap.size 28 (.slice none 0 0) (.slice none 0 0) (.slice none 0 0)) := Box3.made _ _ _ _ _
            have LA : Hid (w.heap.size ≤ v42.heap.size) := A1.out.size
            have LRA : Hid (w.heap.size < v42.heap.size) := H.1.lt
            have LRB : Hid (w.heap.size + 1 < v42.heap.size) := H.2.lt
            have LVS : Hid (LtD k sg0 sg1 sg2 v42.heap.size) := VS.out.ltD
            have LXS : Hid (bs < v42.heap.size) := XS.out.lt
            have LXI : Hid (bi < v42.heap.size) := XI.out.lt
            have LVI : Hid (LtD (markK k 1) ig0 ig1 ig2 v42.heap.size) := VI.out.ltD
            replace H : (Box3 (v42.alloc (.cells #[.slice none 0 0, .slice none 0 0, .slice none 0 0] 28)) w.heap.size 51 (.slice a0 d.nb c0) (.slice a1 d.nc c1) (.slice a2 d.ns c2)) ∧ (Box5 (v42.alloc (.cells #[.slice none 0 0, .slice none 0 0, .slice none 0 0] 28)) (w.heap.size + 1) 52 (.int .i64 a.kd) (.int .i64 a.x) (.string a.s) (.slice ak a.nk ck) (.int .i64 a.t)) := ⟨H.1.below hb, H.2.below hb⟩
            refine hK.out _ _ H (fun _ => ?_)
            clear hK KK
            change wpAnyH _ _ _ _ _ _ _ { tmps := #[_, _, _, _, _, _, _, _, _, _, _, _, _, _, _, _, _, _, _, _, _, _, _, _, _, _, _, _, _, _, _, _, _, _, _, _, _, _, _, _, _, _, _, _, _, _, _, _, _, _, _, _, _, _, _, _, _, _, _, _, _, _, _, _, _, _, _, _, _, _, _, _, _, _, _, _, _, _, _, _, _, _, _, _, _, _, _, _, _, _, _, _, _, _, _, _, _, _, _, _, _, _, _, _, _, _, _, _, _, _, _, _, _, _, _, _, _, _, _], defers := _ } _
            generalize (v42.alloc (.cells #[.slice none 0 0, .slice none 0 0, .slice none 0 0] 28)) = v50 at *
            replace A1 : Hid (Below w.heap.size w v50) := A1.out.trans (hb.mono A1.out.size)
            replace VS : Hid (RowD v50 k sa0 sa1 sa2 sg0 sg1 sg2) := VS.out.below hb
            replace XS : Hid (Box3 v50 bs 28 (.slice sa0 k.nb sc0) (.slice sa1 k.nc sc1) (.slice sa2 k.ns sc2)) := XS.out.below hb
            replace XI : Hid (Box3 v50 bi 28 (.slice ia0 k.nb ic0) (.slice ia1 k.nc ic1) (.slice ia2 k.ns ic2)) := XI.out.below hb
            replace VI : Hid (RowD v50 (markK k 1) ia0 ia1 ia2 ig0 ig1 ig2) := VI.out.below hb
            replace V1 : Hid (RowD v50 d (some ⟨f0, 0, none⟩) (some ⟨f1, 0, none⟩) (some ⟨f2, 0, none⟩) f0 f1 f2) := V1.out.below hb
            clear hb
            obtain ⟨pb, hpb⟩ : ∃ bx, bx = v42.heap.size := ⟨_, rfl⟩
            rw [← hpb] at LA PZ LRA LRB LVS LXS LXI LVI ⊢
            clear hpb
            refine wpAnyH_ready (rs := [3]) (by kernel_rfl) (by simp) ?_
            refine (AllReadyH.cons rfl (fun KK hK => ?_) AllReadyH.nil)
            go_simp
            have PBL : Hid (pb < v50.heap.size) := PZ.out.lt
            refine (TC.out _ (HY.out.below A1.out)).mono ?_
            rintro e v51 ⟨⟨fb, rfl, rd, gd⟩, hb⟩
            replace A1 : Hid (Below w.heap.size w v51) := A1.out.trans (hb.mono A1.out.size)
            replace VS : Hid (RowD v51 k sa0 sa1 sa2 sg0 sg1 sg2) := VS.out.below hb
            replace XS : Hid (Box3 v51 bs 28 (.slice sa0 k.nb sc0) (.slice sa1 k.nc sc1) (.slice sa2 k.ns sc2)) := XS.out.below hb
            replace XI : Hid (Box3 v51 bi 28 (.slice ia0 k.nb ic0) (.slice ia1 k.nc ic1) (.slice ia2 k.ns ic2)) := XI.out.below hb
            replace VI : Hid (RowD v51 (markK k 1) ia0 ia1 ia2 ig0 ig1 ig2) := VI.out.below hb
            replace V1 : Hid (RowD v51 d (some ⟨f0, 0, none⟩) (some ⟨f1, 0, none⟩) (some ⟨f2, 0, none⟩) f0 f1 f2) := V1.out.below hb
            replace PZ : Hid (Box3 v51 pb 28 (.slice none 0 0) (.slice none 0 0) (.slice none 0 0)) := PZ.out.below hb
            replace H : (Box3 v51 w.heap.size 51 (.slice a0 d.nb c0) (.slice a1 d.nc c1) (.slice a2 d.ns c2)) ∧ (Box5 v51 (w.heap.size + 1) 52 (.int .i64 a.kd) (.int .i64 a.x) (.string a.s) (.slice ak a.nk ck) (.int .i64 a.t)) := ⟨H.1.below hb, H.2.below hb⟩
            have V2 : Hid ((v51).rowIs fb 4 a.nk (fun i => .bool (a.K i))) := rd
            clear hb rd gd PBL
            refine hK.out _ _ H (fun _ => ?_)
            clear hK KK
            change wpAnyH _ _ _ _ _ _ _ { tmps := #[_, _, _, _, _, _, _, _, _, _, _, _, _, _, _, _, _, _, _, _, _, _, _, _, _, _, _, _, _, _, _, _, _, _, _, _, _, _, _, _, _, _, _, _, _, _, _, _, _, _, _, _, _, _, _, _, _, _, _, _, _, _, _, _, _, _, _, _, _, _, _, _, _, _, _, _, _, _, _, _, _, _, _, _, _, _, _, _, _, _, _, _, _, _, _, _, _, _, _, _, _, _, _, _, _, _, _, _, _, _, _, _, _, _, _, _, _, _, _], defers := _ } _
            refine wpAnyH_ready (rs := [4]) (by kernel_rfl) (by simp) ?_
            refine (AllReadyH.cons rfl (fun KK hK => ?_) AllReadyH.nil)
            go_simp
            have PBL : Hid (pb < v51.heap.size) := PZ.out.lt
            refine (IY.out _ _ _ _ _ V1.out.diskV (Bools.ofRow V2.out) (HE.out.below A1.out)).mono ?_
            rintro e v52 ⟨⟨ha0, ha1, ha2, hc0, hc1, hc2, hg0, hg1, hg2, rfl, rd, hi0, hi1, hi2⟩, hb⟩
            have GR : Hid (GeD k hg0 hg1 hg2 (pb + 1)) := GeD.mono ⟨hi0, hi1, hi2⟩ PBL.out
            replace A1 : Hid (Below w.heap.size w v52) := A1.out.trans (hb.mono A1.out.size)
            replace VS : Hid (RowD v52 k sa0 sa1 sa2 sg0 sg1 sg2) := VS.out.below hb
            replace XS : Hid (Box3 v52 bs 28 (.slice sa0 k.nb sc0) (.slice sa1 k.nc sc1) (.slice sa2 k.ns sc2)) := XS.out.below hb
            replace XI : Hid (Box3 v52 bi 28 (.slice ia0 k.nb ic0) (.slice ia1 k.nc ic1) (.slice ia2 k.ns ic2)) := XI.out.below hb
            replace VI : Hid (RowD v52 (markK k 1) ia0 ia1 ia2 ig0 ig1 ig2) := VI.out.below hb
            replace V1 : Hid (RowD v52 d (some ⟨f0, 0, none⟩) (some ⟨f1, 0, none⟩) (some ⟨f2, 0, none⟩) f0 f1 f2) := V1.out.below hb
            replace PZ : Hid (Box3 v52 pb 28 (.slice none 0 0) (.slice none 0 0) (.slice none 0 0)) := PZ.out.below hb
            replace V2 : Hid ((v52).rowIs fb 4 a.nk (fun i => .bool (a.K i))) := World.rowIs.of_block V2.out (hb.block _ (World.rowIs.lt V2.out))
            replace H : (Box3 v52 w.heap.size 51 (.slice a0 d.nb c0) (.slice a1 d.nc c1) (.slice a2 d.ns c2)) ∧ (Box5 v52 (w.heap.size + 1) 52 (.int .i64 a.kd) (.int .i64 a.x) (.string a.s) (.slice ak a.nk ck) (.int .i64 a.t)) := ⟨H.1.below hb, H.2.below hb⟩
            have VH : Hid (RowD v52 k ha0 ha1 ha2 hg0 hg1 hg2) := rd
            clear hb rd PBL
            clear hi0 hi1 hi2
            clear V1 V2
            refine hK.out _ _ H (fun _ => ?_)
            clear hK KK
            change wpAnyH _ _ _ _ _ _ _ { tmps := #[_, _, _, _, _, _, _, _, _, _, _, _, _, _, _, _, _, _, _, _, _, _, _, _, _, _, _, _, _, _, _, _, _, _, _, _, _, _, _, _, _, _, _, _, _, _, _, _, _, _, _, _, _, _, _, _, _, _, _, _, _, _, _, _, _, _, _, _, _, _, _, _, _, _, _, _, _, _, _, _, _, _, _, _, _, _, _, _, _, _, _, _, _, _, _, _, _, _, _, _, _, _, _, _, _, _, _, _, _, _, _, _, _, _, _, _, _, _, _], defers := _ } _
            refine wpAnyH_take (i := 5) (v := .tuple #[.agg #[.slice ha0 k.nb hc0, .slice ha1 k.nc hc1, .slice ha2 k.ns hc2], .int .i64 code]) rfl (by kernel_rfl) (by kernel_rfl) (by kernel_rfl) (fun _ _ _ h => h) (Or.inl ⟨by rfl, ?_⟩) H ?_
            · intro w' hSw; go_simp
            change wpAnyH _ _ _ _ _ _ _ { tmps := #[_, _, _, _, _, _, _, _, _, _, _, _, _, _, _, _, _, _, _, _, _, _, _, _, _, _, _, _, _, _, _, _, _, _, _, _, _, _, _, _, _, _, _, _, _, _, _, _, _, _, _, _, _, _, _, _, _, _, _, _, _, _, _, _, _, _, _, _, _, _, _, _, _, _, _, _, _, _, _, _, _, _, _, _, _, _, _, _, _, _, _, _, _, _, _, _, _, _, _, _, _, _, _, _, _, _, _, _, _, _, _, _, _, _, _, _, _, _, _], defers := _ } _
            refine wpAnyH_take (i := 6) (v := .agg #[.slice ha0 k.nb hc0, .slice ha1 k.nc hc1, .slice ha2 k.ns hc2]) rfl (by kernel_rfl) (by kernel_rfl) (by kernel_rfl) (fun _ _ _ h => h) (Or.inl ⟨by rfl, ?_⟩) H ?_
            · intro w' hSw; go_simp
            change wpAnyH _ _ _ _ _ _ _ { tmps := #[_, _, _, _, _, _, _, _, _, _, _, _, _, _, _, _, _, _, _, _, _, _, _, _, _, _, _, _, _, _, _, _, _, _, _, _, _, _, _, _, _, _, _, _, _, _, _, _, _, _, _, _, _, _, _, _, _, _, _, _, _, _, _, _, _, _, _, _, _, _, _, _, _, _, _, _, _, _, _, _, _, _, _, _, _, _, _, _, _, _, _, _, _, _, _, _, _, _, _, _, _, _, _, _, _, _, _, _, _, _, _, _, _, _, _, _, _, _, _], defers := _ } _
            refine wpAnyH_take (i := 7) (v := .int .i64 code) rfl (by kernel_rfl) (by kernel_rfl) (by kernel_rfl) (fun _ _ _ h => h) (Or.inl ⟨by rfl, ?_⟩) H ?_
            · intro w' hSw; go_simp
            change wpAnyH _ _ _ _ _ _ _ { tmps := #[_, _, _, _, _, _, _, _, _, _, _, _, _, _, _, _, _, _, _, _, _, _, _, _, _, _, _, _, _, _, _, _, _, _, _, _, _, _, _, _, _, _, _, _, _, _, _, _, _, _, _, _, _, _, _, _, _, _, _, _, _, _, _, _, _, _, _, _, _, _, _, _, _, _, _, _, _, _, _, _, _, _, _, _, _, _, _, _, _, _, _, _, _, _, _, _, _, _, _, _, _, _, _, _, _, _, _, _, _, _, _, _, _, _, _, _, _, _, _], defers := _ } _
            refine wpAnyH_ready (rs := [9]) (by kernel_rfl) (by simp) ?_
            refine AllReadyH.cons rfl (fun KK hK => ?_) AllReadyH.nil
            rw [if_pos (by rfl)]
            refine wp_store_mid 28 (.tmp 15) (.tmp 100) rfl pb 0 #[.slice ha0 k.nb hc0, .slice ha1 k.nc hc1, .slice ha2 k.ns hc2] rfl rfl PZ.out.there Tryd.sizeDk (oneSl3 _ _ _ _ _ _ _ _ _) ?_
            have ho : OnlyB pb v52 (v52.setCells pb 0 [.slice ha0 k.nb hc0, .slice ha1 k.nc hc1, .slice ha2 k.ns hc2]) := OnlyB.stored3 _ _ _ _ _
            have hk := ho.keepR
            have XN : Hid (Box3 (v52.setCells pb 0 [.slice ha0 k.nb hc0, .slice ha1 k.nc hc1, .slice ha2 k.ns hc2]) pb 28 (.slice ha0 k.nb hc0) (.slice ha1 k.nc hc1) (.slice ha2 k.ns hc2)) := PZ.out.stored _ _ _
            have sz1 : v52.heap.size ≤ (v52.setCells pb 0 [.slice ha0 k.nb hc0, .slice ha1 k.nc hc1, .slice ha2 k.ns hc2]).heap.size := ho.size
            replace A1 : Hid (Below w.heap.size w (v52.setCells pb 0 [.slice ha0 k.nb hc0, .slice ha1 k.nc hc1, .slice ha2 k.ns hc2])) := A1.out.trans (ho.toBelow LA.out A1.out.size)
            replace VS : Hid (RowD (v52.setCells pb 0 [.slice ha0 k.nb hc0, .slice ha1 k.nc hc1, .slice ha2 k.ns hc2]) k sa0 sa1 sa2 sg0 sg1 sg2) := VS.out.keepR hk (.inl LVS.out)
            replace XS : Hid (Box3 (v52.setCells pb 0 [.slice ha0 k.nb hc0, .slice ha1 k.nc hc1, .slice ha2 k.ns hc2]) bs 28 (.slice sa0 k.nb sc0) (.slice sa1 k.nc sc1) (.slice sa2 k.ns sc2)) := XS.out.keepR hk (.inl LXS.out)
            replace XI : Hid (Box3 (v52.setCells pb 0 [.slice ha0 k.nb hc0, .slice ha1 k.nc hc1, .slice ha2 k.ns hc2]) bi 28 (.slice ia0 k.nb ic0) (.slice ia1 k.nc ic1) (.slice ia2 k.ns ic2)) := XI.out.keepR hk (.inl LXI.out)
            replace VI : Hid (RowD (v52.setCells pb 0 [.slice ha0 k.nb hc0, .slice ha1 k.nc hc1, .slice ha2 k.ns hc2]) (markK k 1) ia0 ia1 ia2 ig0 ig1 ig2) := VI.out.keepR hk (.inl LVI.out)
            replace VH : Hid (RowD (v52.setCells pb 0 [.slice ha0 k.nb hc0, .slice ha1 k.nc hc1, .slice ha2 k.ns hc2]) k ha0 ha1 ha2 hg0 hg1 hg2) := VH.out.keepR hk (.inr GR.out)
            replace H : (Box3 (v52.setCells pb 0 [.slice ha0 k.nb hc0, .slice ha1 k.nc hc1, .slice ha2 k.ns hc2]) w.heap.size 51 (.slice a0 d.nb c0) (.slice a1 d.nc c1) (.slice a2 d.ns c2)) ∧ (Box5 (v52.setCells pb 0 [.slice ha0 k.nb hc0, .slice ha1 k.nc hc1, .slice ha2 k.ns hc2]) (w.heap.size + 1) 52 (.int .i64 a.kd) (.int .i64 a.x) (.string a.s) (.slice ak a.nk ck) (.int .i64 a.t)) := ⟨H.1.keepR hk (.inl LRA.out), H.2.keepR hk (.inl LRB.out)⟩
            refine hK.out _ _ H (fun _ => ?_)
            clear hK KK PZ ho hk sz1
            generalize (v52.setCells pb 0 [.slice ha0 k.nb hc0, .slice ha1 k.nc hc1, .slice ha2 k.ns hc2]) = v53 at *
            change wpAnyH _ _ _ _ _ _ _ { tmps := #[_, _, _, _, _, _, _, _, _, _, _, _, _, _, _, _, _, _, _, _, _, _, _, _, _, _, _, _, _, _, _, _, _, _, _, _, _, _, _, _, _, _, _, _, _, _, _, _, _, _, _, _, _, _, _, _, _, _, _, _, _, _, _, _, _, _, _, _, _, _, _, _, _, _, _, _, _, _, _, _, _, _, _, _, _, _, _, _, _, _, _, _, _, _, _, _, _, _, _, _, _, _, _, _, _, _, _, _, _, _, _, _, _, _, _, _, _, _, _], defers := _ } _
            refine wpAnyH_take (i := 10) (v := .int .i64 code) rfl (by kernel_rfl) (by kernel_rfl) (by kernel_rfl) (fun _ _ _ h => h) (Or.inl ⟨by rfl, ?_⟩) H ?_
            · intro w' hSw; go_simp
            change wpAnyH _ _ _ _ _ _ _ { tmps := #[_, _, _, _, _, _, _, _, _, _, _, _, _, _, _, _, _, _, _, _, _, _, _, _, _, _, _, _, _, _, _, _, _, _, _, _, _, _, _, _, _, _, _, _, _, _, _, _, _, _, _, _, _, _, _, _, _, _, _, _, _, _, _, _, _, _, _, _, _, _, _, _, _, _, _, _, _, _, _, _, _, _, _, _, _, _, _, _, _, _, _, _, _, _, _, _, _, _, _, _, _, _, _, _, _, _, _, _, _, _, _, _, _, _, _, _, _, _, _], defers := _ } _
            refine wpAnyH_done (by kernel_rfl) ?_ _
            refine NoPanic.normal ?_
            change Exit.then _ _ Exit.normal { tmps := #[_, _, _, _, _, _, _, _, _, _, _, _, _, _, _, _, _, _, _, _, _, _, _, _, _, _, _, _, _, _, _, _, _, _, _, _, _, _, _, _, _, _, _, _, _, _, _, _, _, _, _, _, _, _, _, _, _, _, _, _, _, _, _, _, _, _, _, _, _, _, _, _, _, _, _, _, _, _, _, _, _, _, _, _, _, _, _, _, _, _, _, _, _, _, _, _, _, _, _, _, _, _, _, _, _, _, _, _, _, _, _, _, _, _, _, _, _, _, _], defers := _ } _
            go_wp2_with fail
            go_meet
            exact ⟨pb, ha0, ha1, ha2, hc0, hc1, hc2, hg0, hg1, hg2, rfl, rfl, XN.out, VH.out, VS.out, XS.out, XI.out, VI.out, A1.out⟩
        · skip
          go_simp
          have hb : Below v41.heap.size v41 (v41.alloc (.cells #[.slice none 0 0, .slice none 0 0, .slice none 0 0] 28)) := (Below.refl _ _).alloc (Nat.le_refl _) _
          have PZ : Hid (Box3 (v41.alloc (.cells #[.slice none 0 0, .slice none 0 0, .slice none 0 0] 28)) v41.heap.size 28 (.slice none 0 0) (.slice none 0 0) (.slice none 0 0)) := Box3.made _ _ _ _ _
          have LA : Hid (w.heap.size ≤ v41.heap.size) := A1.out.size
          have LRA : Hid (w.heap.size < v41.heap.size) := H.1.lt
          have LRB : Hid (w.heap.size + 1 < v41.heap.size) := H.2.lt
          have LVS : Hid (LtD k sg0 sg1 sg2 v41.heap.size) := VS.out.ltD
          have LXS : Hid (bs < v41.heap.size) := XS.out.lt
          have LXI : Hid (bi < v41.heap.size) := XI.out.lt
          have LVI : Hid (LtD (markK k 1) ig0 ig1 ig2 v41.heap.size) := VI.out.ltD
          replace H : (Box3 (v41.alloc (.cells #[.slice none 0 0, .slice none 0 0, .slice none 0 0] 28)) w.heap.size 51 (.slice a0 d.nb c0) (.slice a1 d.nc c1) (.slice a2 d.ns c2)) ∧ (Box5 (v41.alloc (.cells #[.slice none 0 0, .slice none 0 0, .slice none 0 0] 28)) (w.heap.size + 1) 52 (.int .i64 a.kd) (.int .i64 a.x) (.string a.s) (.slice ak a.nk ck) (.int .i64 a.t)) := ⟨H.1.below hb, H.2.below hb⟩
          refine hK.out _ _ H (fun _ => ?_)
          clear hK KK
          change wpAnyH _ _ _ _ _ _ _ { tmps := #[_, _, _, _, _, _, _, _, _, _, _, _, _, _, _, _, _, _, _, _, _, _, _, _, _, _, _, _, _, _, _, _, _, _, _, _, _, _, _, _, _, _, _, _, _, _, _, _, _, _, _, _, _, _, _, _, _, _, _, _, _, _, _, _, _, _, _, _, _, _, _, _, _, _, _, _, _, _, _, _, _, _, _, _, _, _, _, _, _, _, _, _, _, _, _, _, _, _, _, _, _, _, _, _, _, _, _, _, _, _, _, _, _, _, _, _, _, _, _], defers := _ } _
          generalize (v41.alloc (.cells #[.slice none 0 0, .slice none 0 0, .slice none 0 0] 28)) = v54 at *
          replace A1 : Hid (Below w.heap.size w v54) := A1.out.trans (hb.mono A1.out.size)
          replace VS : Hid (RowD v54 k sa0 sa1 sa2 sg0 sg1 sg2) := VS.out.below hb
          replace XS : Hid (Box3 v54 bs 28 (.slice sa0 k.nb sc0) (.slice sa1 k.nc sc1) (.slice sa2 k.ns sc2)) := XS.out.below hb
          replace XI : Hid (Box3 v54 bi 28 (.slice ia0 k.nb ic0) (.slice ia1 k.nc ic1) (.slice ia2 k.ns ic2)) := XI.out.below hb
          replace VI : Hid (RowD v54 (markK k 1) ia0 ia1 ia2 ig0 ig1 ig2) := VI.out.below hb
          clear hb
          obtain ⟨pb, hpb⟩ : ∃ bx, bx = v41.heap.size := ⟨_, rfl⟩
          rw [← hpb] at LA PZ LRA LRB LVS LXS LXI LVI ⊢
          clear hpb
          refine wpAnyH_ready (rs := [1]) (by kernel_rfl) (by simp) ?_
          refine (AllReadyH.cons rfl (fun KK hK => ?_) AllReadyH.nil)
          go_simp
          have PBL : Hid (pb < v54.heap.size) := PZ.out.lt
          refine (TD.out _ (HX.out.below A1.out)).mono ?_
          rintro e v55 ⟨⟨f0, f1, f2, rfl, rd, gd⟩, hb⟩
          replace A1 : Hid (Below w.heap.size w v55) := A1.out.trans (hb.mono A1.out.size)
          replace VS : Hid (RowD v55 k sa0 sa1 sa2 sg0 sg1 sg2) := VS.out.below hb
          replace XS : Hid (Box3 v55 bs 28 (.slice sa0 k.nb sc0) (.slice sa1 k.nc sc1) (.slice sa2 k.ns sc2)) := XS.out.below hb
          replace XI : Hid (Box3 v55 bi 28 (.slice ia0 k.nb ic0) (.slice ia1 k.nc ic1) (.slice ia2 k.ns ic2)) := XI.out.below hb
          replace VI : Hid (RowD v55 (markK k 1) ia0 ia1 ia2 ig0 ig1 ig2) := VI.out.below hb
          replace PZ : Hid (Box3 v55 pb 28 (.slice none 0 0) (.slice none 0 0) (.slice none 0 0)) := PZ.out.below hb
          replace H : (Box3 v55 w.heap.size 51 (.slice a0 d.nb c0) (.slice a1 d.nc c1) (.slice a2 d.ns c2)) ∧ (Box5 v55 (w.heap.size + 1) 52 (.int .i64 a.kd) (.int .i64 a.x) (.string a.s) (.slice ak a.nk ck) (.int .i64 a.t)) := ⟨H.1.below hb, H.2.below hb⟩
          have V1 : Hid (RowD v55 d (some ⟨f0, 0, none⟩) (some ⟨f1, 0, none⟩) (some ⟨f2, 0, none⟩) f0 f1 f2) := rd
          clear hb rd gd PBL
          refine hK.out _ _ H (fun _ => ?_)
          clear hK KK
          change wpAnyH _ _ _ _ _ _ _ { tmps := #[_, _, _, _, _, _, _, _, _, _, _, _, _, _, _, _, _, _, _, _, _, _, _, _, _, _, _, _, _, _, _, _, _, _, _, _, _, _, _, _, _, _, _, _, _, _, _, _, _, _, _, _, _, _, _, _, _, _, _, _, _, _, _, _, _, _, _, _, _, _, _, _, _, _, _, _, _, _, _, _, _, _, _, _, _, _, _, _, _, _, _, _, _, _, _, _, _, _, _, _, _, _, _, _, _, _, _, _, _, _, _, _, _, _, _, _, _, _, _], defers := _ } _
          refine wpAnyH_ready (rs := [3]) (by kernel_rfl) (by simp) ?_
          refine (AllReadyH.cons rfl (fun KK hK => ?_) AllReadyH.nil)
          go_simp
          have PBL : Hid (pb < v55.heap.size) := PZ.out.lt
          refine (TC.out _ (HY.out.below A1.out)).mono ?_
          rintro e v56 ⟨⟨fb, rfl, rd, gd⟩, hb⟩
          replace A1 : Hid (Below w.heap.size w v56) := A1.out.trans (hb.mono A1.out.size)
          replace VS : Hid (RowD v56 k sa0 sa1 sa2 sg0 sg1 sg2) := VS.out.below hb
          replace XS : Hid (Box3 v56 bs 28 (.slice sa0 k.nb sc0) (.slice sa1 k.nc sc1) (.slice sa2 k.ns sc2)) := XS.out.below hb
          replace XI : Hid (Box3 v56 bi 28 (.slice ia0 k.nb ic0) (.slice ia1 k.nc ic1) (.slice ia2 k.ns ic2)) := XI.out.below hb
          replace VI : Hid (RowD v56 (markK k 1) ia0 ia1 ia2 ig0 ig1 ig2) := VI.out.below hb
          replace PZ : Hid (Box3 v56 pb 28 (.slice none 0 0) (.slice none 0 0) (.slice none 0 0)) := PZ.out.below hb
          replace V1 : Hid (RowD v56 d (some ⟨f0, 0, none⟩) (some ⟨f1, 0, none⟩) (some ⟨f2, 0, none⟩) f0 f1 f2) := V1.out.below hb
          replace H : (Box3 v56 w.heap.size 51 (.slice a0 d.nb c0) (.slice a1 d.nc c1) (.slice a2 d.ns c2)) ∧ (Box5 v56 (w.heap.size + 1) 52 (.int .i64 a.kd) (.int .i64 a.x) (.string a.s) (.slice ak a.nk ck) (.int .i64 a.t)) := ⟨H.1.below hb, H.2.below hb⟩
          have V2 : Hid ((v56).rowIs fb 4 a.nk (fun i => .bool (a.K i))) := rd
          clear hb rd gd PBL
          refine hK.out _ _ H (fun _ => ?_)
          clear hK KK
          change wpAnyH _ _ _ _ _ _ _ { tmps := #[_, _, _, _, _, _, _, _, _, _, _, _, _, _, _, _, _, _, _, _, _, _, _, _, _, _, _, _, _, _, _, _, _, _, _, _, _, _, _, _, _, _, _, _, _, _, _, _, _, _, _, _, _, _, _, _, _, _, _, _, _, _, _, _, _, _, _, _, _, _, _, _, _, _, _, _, _, _, _, _, _, _, _, _, _, _, _, _, _, _, _, _, _, _, _, _, _, _, _, _, _, _, _, _, _, _, _, _, _, _, _, _, _, _, _, _, _, _, _], defers := _ } _
          refine wpAnyH_ready (rs := [4]) (by kernel_rfl) (by simp) ?_
          refine (AllReadyH.cons rfl (fun KK hK => ?_) AllReadyH.nil)
          go_simp
          have PBL : Hid (pb < v56.heap.size) := PZ.out.lt
          refine (IY.out _ _ _ _ _ V1.out.diskV (Bools.ofRow V2.out) (HE.out.below A1.out)).mono ?_
          rintro e v57 ⟨⟨ha0, ha1, ha2, hc0, hc1, hc2, hg0, hg1, hg2, rfl, rd, hi0, hi1, hi2⟩, hb⟩
          have GR : Hid (GeD k hg0 hg1 hg2 (pb + 1)) := GeD.mono ⟨hi0, hi1, hi2⟩ PBL.out
          replace A1 : Hid (Below w.heap.size w v57) := A1.out.trans (hb.mono A1.out.size)
          replace VS : Hid (RowD v57 k sa0 sa1 sa2 sg0 sg1 sg2) := VS.out.below hb
          replace XS : Hid (Box3 v57 bs 28 (.slice sa0 k.nb sc0) (.slice sa1 k.nc sc1) (.slice sa2 k.ns sc2)) := XS.out.below hb
          replace XI : Hid (Box3 v57 bi 28 (.slice ia0 k.nb ic0) (.slice ia1 k.nc ic1) (.slice ia2 k.ns ic2)) := XI.out.below hb
          replace VI : Hid (RowD v57 (markK k 1) ia0 ia1 ia2 ig0 ig1 ig2) := VI.out.below hb
          replace PZ : Hid (Box3 v57 pb 28 (.slice none 0 0) (.slice none 0 0) (.slice none 0 0)) := PZ.out.below hb
          replace V1 : Hid (RowD v57 d (some ⟨f0, 0, none⟩) (some ⟨f1, 0, none⟩) (some ⟨f2, 0, none⟩) f0 f1 f2) := V1.out.below hb
          replace V2 : Hid ((v57).rowIs fb 4 a.nk (fun i => .bool (a.K i))) := World.rowIs.of_block V2.out (hb.block _ (World.rowIs.lt V2.out))
          replace H : (Box3 v57 w.heap.size 51 (.slice a0 d.nb c0) (.slice a1 d.nc c1) (.slice a2 d.ns c2)) ∧ (Box5 v57 (w.heap.size + 1) 52 (.int .i64 a.kd) (.int .i64 a.x) (.string a.s) (.slice ak a.nk ck) (.int .i64 a.t)) := ⟨H.1.below hb, H.2.below hb⟩
          have VH : Hid (RowD v57 k ha0 ha1 ha2 hg0 hg1 hg2) := rd
          clear hb rd PBL
          clear hi0 hi1 hi2
          clear V1 V2
          refine hK.out _ _ H (fun _ => ?_)
          clear hK KK
          change wpAnyH _ _ _ _ _ _ _ { tmps := #[_, _, _, _, _, _, _, _, _, _, _, _, _, _, _, _, _, _, _, _, _, _, _, _, _, _, _, _, _, _, _, _, _, _, _, _, _, _, _, _, _, _, _, _, _, _, _, _, _, _, _, _, _, _, _, _, _, _, _, _, _, _, _, _, _, _, _, _, _, _, _, _, _, _, _, _, _, _, _, _, _, _, _, _, _, _, _, _, _, _, _, _, _, _, _, _, _, _, _, _, _, _, _, _, _, _, _, _, _, _, _, _, _, _, _, _, _, _, _], defers := _ } _
          refine wpAnyH_take (i := 5) (v := .tuple #[.agg #[.slice ha0 k.nb hc0, .slice ha1 k.nc hc1, .slice ha2 k.ns hc2], .int .i64 code]) rfl (by kernel_rfl) (by kernel_rfl) (by kernel_rfl) (fun _ _ _ h => h) (Or.inl ⟨by rfl, ?_⟩) H ?_
          · intro w' hSw; go_simp
          change wpAnyH _ _ _ _ _ _ _ { tmps := #[_, _, _, _, _, _, _, _, _, _, _, _, _, _, _, _, _, _, _, _, _, _, _, _, _, _, _, _, _, _, _, _, _, _, _, _, _, _, _, _, _, _, _, _, _, _, _, _, _, _, _, _, _, _, _, _, _, _, _, _, _, _, _, _, _, _, _, _, _, _, _, _, _, _, _, _, _, _, _, _, _, _, _, _, _, _, _, _, _, _, _, _, _, _, _, _, _, _, _, _, _, _, _, _, _, _, _, _, _, _, _, _, _, _, _, _, _, _, _], defers := _ } _
          refine wpAnyH_take (i := 6) (v := .agg #[.slice ha0 k.nb hc0, .slice ha1 k.nc hc1, .slice ha2 k.ns hc2]) rfl (by kernel_rfl) (by kernel_rfl) (by kernel_rfl) (fun _ _ _ h => h) (Or.inl ⟨by rfl, ?_⟩) H ?_
          · intro w' hSw; go_simp
          change wpAnyH _ _ _ _ _ _ _ { tmps := #[_, _, _, _, _, _, _, _, _, _, _, _, _, _, _, _, _, _, _, _, _, _, _, _, _, _, _, _, _, _, _, _, _, _, _, _, _, _, _, _, _, _, _, _, _, _, _, _, _, _, _, _, _, _, _, _, _, _, _, _, _, _, _, _, _, _, _, _, _, _, _, _, _, _, _, _, _, _, _, _, _, _, _, _, _, _, _, _, _, _, _, _, _, _, _, _, _, _, _, _, _, _, _, _, _, _, _, _, _, _, _, _, _, _, _, _, _, _, _], defers := _ } _
          refine wpAnyH_take (i := 7) (v := .int .i64 code) rfl (by kernel_rfl) (by kernel_rfl) (by kernel_rfl) (fun _ _ _ h => h) (Or.inl ⟨by rfl, ?_⟩) H ?_
          · intro w' hSw; go_simp
          change wpAnyH _ _ _ _ _ _ _ { tmps := #[_, _, _, _, _, _, _, _, _, _, _, _, _, _, _, _, _, _, _, _, _, _, _, _, _, _, _, _, _, _, _, _, _, _, _, _, _, _, _, _, _, _, _, _, _, _, _, _, _, _, _, _, _, _, _, _, _, _, _, _, _, _, _, _, _, _, _, _, _, _, _, _, _, _, _, _, _, _, _, _, _, _, _, _, _, _, _, _, _, _, _, _, _, _, _, _, _, _, _, _, _, _, _, _, _, _, _, _, _, _, _, _, _, _, _, _, _, _, _], defers := _ } _
          refine wpAnyH_ready (rs := [9]) (by kernel_rfl) (by simp) ?_
          refine AllReadyH.cons rfl (fun KK hK => ?_) AllReadyH.nil
          rw [if_pos (by rfl)]
          refine wp_store_mid 28 (.tmp 15) (.tmp 100) rfl pb 0 #[.slice ha0 k.nb hc0, .slice ha1 k.nc hc1, .slice ha2 k.ns hc2] rfl rfl PZ.out.there Tryd.sizeDk (oneSl3 _ _ _ _ _ _ _ _ _) ?_
          have ho : OnlyB pb v57 (v57.setCells pb 0 [.slice ha0 k.nb hc0, .slice ha1 k.nc hc1, .slice ha2 k.ns hc2]) := OnlyB.stored3 _ _ _ _ _
          have hk := ho.keepR
          have XN : Hid (Box3 (v57.setCells pb 0 [.slice ha0 k.nb hc0, .slice ha1 k.nc hc1, .slice ha2 k.ns hc2]) pb 28 (.slice ha0 k.nb hc0) (.slice ha1 k.nc hc1) (.slice ha2 k.ns hc2)) := PZ.out.stored _ _ _
          have sz1 : v57.heap.size ≤ (v57.setCells pb 0 [.slice ha0 k.nb hc0, .slice ha1 k.nc hc1, .slice ha2 k.ns hc2]).heap.size := ho.size
          replace A1 : Hid (Below w.heap.size w (v57.setCells pb 0 [.slice ha0 k.nb hc0, .slice ha1 k.nc hc1, .slice ha2 k.ns hc2])) := A1.out.trans (ho.toBelow LA.out A1.out.size)
          replace VS : Hid (RowD (v57.setCells pb 0 [.slice ha0 k.nb hc0, .slice ha1 k.nc hc1, .slice ha2 k.ns hc2]) k sa0 sa1 sa2 sg0 sg1 sg2) := VS.out.keepR hk (.inl LVS.out)
          replace XS : Hid (Box3 (v57.setCells pb 0 [.slice ha0 k.nb hc0, .slice ha1 k.nc hc1, .slice ha2 k.ns hc2]) bs 28 (.slice sa0 k.nb sc0) (.slice sa1 k.nc sc1) (.slice sa2 k.ns sc2)) := XS.out.keepR hk (.inl LXS.out)
          replace XI : Hid (Box3 (v57.setCells pb 0 [.slice ha0 k.nb hc0, .slice ha1 k.nc hc1, .slice ha2 k.ns hc2]) bi 28 (.slice ia0 k.nb ic0) (.slice ia1 k.nc ic1) (.slice ia2 k.ns ic2)) := XI.out.keepR hk (.inl LXI.out)
          replace VI : Hid (RowD (v57.setCells pb 0 [.slice ha0 k.nb hc0, .slice ha1 k.nc hc1, .slice ha2 k.ns hc2]) (markK k 1) ia0 ia1 ia2 ig0 ig1 ig2) := VI.out.keepR hk (.inl LVI.out)
          replace VH : Hid (RowD (v57.setCells pb 0 [.slice ha0 k.nb hc0, .slice ha1 k.nc hc1, .slice ha2 k.ns hc2]) k ha0 ha1 ha2 hg0 hg1 hg2) := VH.out.keepR hk (.inr GR.out)
          replace H : (Box3 (v57.setCells pb 0 [.slice ha0 k.nb hc0, .slice ha1 k.nc hc1, .slice ha2 k.ns hc2]) w.heap.size 51 (.slice a0 d.nb c0) (.slice a1 d.nc c1) (.slice a2 d.ns c2)) ∧ (Box5 (v57.setCells pb 0 [.slice ha0 k.nb hc0, .slice ha1 k.nc hc1, .slice ha2 k.ns hc2]) (w.heap.size + 1) 52 (.int .i64 a.kd) (.int .i64 a.x) (.string a.s) (.slice ak a.nk ck) (.int .i64 a.t)) := ⟨H.1.keepR hk (.inl LRA.out), H.2.keepR hk (.inl LRB.out)⟩
          refine hK.out _ _ H (fun _ => ?_)
          clear hK KK PZ ho hk sz1
          generalize (v57.setCells pb 0 [.slice ha0 k.nb hc0, .slice ha1 k.nc hc1, .slice ha2 k.ns hc2]) = v58 at *
          change wpAnyH _ _ _ _ _ _ _ { tmps := #[_, _, _, _, _, _, _, _, _, _, _, _, _, _, _, _, _, _, _, _, _, _, _, _, _, _, _, _, _, _, _, _, _, _, _, _, _, _, _, _, _, _, _, _, _, _, _, _, _, _, _, _, _, _, _, _, _, _, _, _, _, _, _, _, _, _, _, _, _, _, _, _, _, _, _, _, _, _, _, _, _, _, _, _, _, _, _, _, _, _, _, _, _, _, _, _, _, _, _, _, _, _, _, _, _, _, _, _, _, _, _, _, _, _, _, _, _, _, _], defers := _ } _
          refine wpAnyH_take (i := 10) (v := .int .i64 code) rfl (by kernel_rfl) (by kernel_rfl) (by kernel_rfl) (fun _ _ _ h => h) (Or.inl ⟨by rfl, ?_⟩) H ?_
          · intro w' hSw; go_simp
          change wpAnyH _ _ _ _ _ _ _ { tmps := #[_, _, _, _, _, _, _, _, _, _, _, _, _, _, _, _, _, _, _, _, _, _, _, _, _, _, _, _, _, _, _, _, _, _, _, _, _, _, _, _, _, _, _, _, _, _, _, _, _, _, _, _, _, _, _, _, _, _, _, _, _, _, _, _, _, _, _, _, _, _, _, _, _, _, _, _, _, _, _, _, _, _, _, _, _, _, _, _, _, _, _, _, _, _, _, _, _, _, _, _, _, _, _, _, _, _, _, _, _, _, _, _, _, _, _, _, _, _, _], defers := _ } _
          refine wpAnyH_done (by kernel_rfl) ?_ _
          refine NoPanic.normal ?_
          change Exit.then _ _ Exit.normal { tmps := #[_, _, _, _, _, _, _, _, _, _, _, _, _, _, _, _, _, _, _, _, _, _, _, _, _, _, _, _, _, _, _, _, _, _, _, _, _, _, _, _, _, _, _, _, _, _, _, _, _, _, _, _, _, _, _, _, _, _, _, _, _, _, _, _, _, _, _, _, _, _, _, _, _, _, _, _, _, _, _, _, _, _, _, _, _, _, _, _, _, _, _, _, _, _, _, _, _, _, _, _, _, _, _, _, _, _, _, _, _, _, _, _, _, _, _, _, _, _, _], defers := _ } _
          go_wp2_with fail
          go_meet
          exact ⟨pb, ha0, ha1, ha2, hc0, hc1, hc2, hg0, hg1, hg2, rfl, rfl, XN.out, VH.out, VS.out, XS.out, XI.out, VI.out, A1.out⟩
      case rest =>
      obtain ⟨bh, ha0, ha1, ha2, hc0, hc1, hc2, hg0, hg1, hg2, rfl, rfl, xn, rd, fVS, fXS, fXI, fVI, hb⟩ := hcut
      replace A1 : Hid (Below w.heap.size w wc) := hb
      replace VS : Hid (RowD wc k sa0 sa1 sa2 sg0 sg1 sg2) := fVS
      replace XS : Hid (Box3 wc bs 28 (.slice sa0 k.nb sc0) (.slice sa1 k.nc sc1) (.slice sa2 k.ns sc2)) := fXS
      replace XI : Hid (Box3 wc bi 28 (.slice ia0 k.nb ic0) (.slice ia1 k.nc ic1) (.slice ia2 k.ns ic2)) := fXI
      replace VI : Hid (RowD wc (markK k 1) ia0 ia1 ia2 ig0 ig1 ig2) := fVI
      have VH : Hid (RowD wc k ha0 ha1 ha2 hg0 hg1 hg2) := rd
      have XH : Hid (Box3 wc bh 28 (.slice ha0 k.nb hc0) (.slice ha1 k.nc hc1) (.slice ha2 k.ns hc2)) := xn
      clear hb rd xn fVS fXS fVI fXI RA RB
      clear IY TD TC HX HY HE
      have j0 := XH.out.c0
      have j1 := XH.out.c1
      have j2 := XH.out.c2
      have s0 := XS.out.c0
      have s1 := XS.out.c1
      have s2 := XS.out.c2
      go_wp2_with fail
      refine (EQ.out _ _ _ _ _ _ _ _ _ _ _ _ _ VH.out.diskV VS.out.diskV).mono ?_
      rintro e v60 ⟨rfl, hb⟩
      replace A1 : Hid (Below w.heap.size w v60) := A1.out.trans (hb.mono A1.out.size)
      replace VS : Hid (RowD v60 k sa0 sa1 sa2 sg0 sg1 sg2) := VS.out.below hb
      replace XS : Hid (Box3 v60 bs 28 (.slice sa0 k.nb sc0) (.slice sa1 k.nc sc1) (.slice sa2 k.ns sc2)) := XS.out.below hb
      replace XI : Hid (Box3 v60 bi 28 (.slice ia0 k.nb ic0) (.slice ia1 k.nc ic1) (.slice ia2 k.ns ic2)) := XI.out.below hb
      replace VI : Hid (RowD v60 (markK k 1) ia0 ia1 ia2 ig0 ig1 ig2) := VI.out.below hb
      replace VH : Hid (RowD v60 k ha0 ha1 ha2 hg0 hg1 hg2) := VH.out.below hb
      replace XH : Hid (Box3 v60 bh 28 (.slice ha0 k.nb hc0) (.slice ha1 k.nc hc1) (.slice ha2 k.ns hc2)) := XH.out.below hb
      clear hb 
      clear j0 j1 j2 s0 s1 s2
      have j0 := XI.out.c0
      have j1 := XI.out.c1
      have j2 := XI.out.c2
      go_wp2_with fail
      refine (HK.out _ _ _ _ _ _ _ VI.out.diskV).mono ?_
      rintro e v61 ⟨rfl, hb⟩
      replace A1 : Hid (Below w.heap.size w v61) := A1.out.trans (hb.mono A1.out.size)
      replace VS : Hid (RowD v61 k sa0 sa1 sa2 sg0 sg1 sg2) := VS.out.below hb
      replace XS : Hid (Box3 v61 bs 28 (.slice sa0 k.nb sc0) (.slice sa1 k.nc sc1) (.slice sa2 k.ns sc2)) := XS.out.below hb
      replace XI : Hid (Box3 v61 bi 28 (.slice ia0 k.nb ic0) (.slice ia1 k.nc ic1) (.slice ia2 k.ns ic2)) := XI.out.below hb
      replace VI : Hid (RowD v61 (markK k 1) ia0 ia1 ia2 ig0 ig1 ig2) := VI.out.below hb
      replace VH : Hid (RowD v61 k ha0 ha1 ha2 hg0 hg1 hg2) := VH.out.below hb
      replace XH : Hid (Box3 v61 bh 28 (.slice ha0 k.nb hc0) (.slice ha1 k.nc hc1) (.slice ha2 k.ns hc2)) := XH.out.below hb
      clear hb 
      clear j0 j1 j2
      clear HK EQ ED EA
      go_wp2
      go_ret
      exact ⟨rfl, A1.out⟩
end Go.Proofs.YtbecnaabmlkjjaaDoor
