/-
  Behind a crash each block but one is as it was, or as a write left it.
-/
import Derived.Test.YtkhglllicblbbaaDoorDriveCr
import Derived.Test.YtkhglllicblbbaaDoorM02
import Derived.Test.YtkhglllicblbbaaDoorAtIs
import Derived.Test.YtkhglllicblbbaaDoorM03
import Derived.Test.YtkhglllicblbbaaDoorDiskSt
import Derived.Test.YtkhglllicblbbaaDoorSpecDs
import Derived.Test.YtkhglllicblbbaaDoorM04
namespace Go.Proofs.YtkhglllicblbbaaDoor
open Go.ChangeShapes Go.WideShapes Go.ChangeAt Go.RowKit
/-- Block i of B is as in d, or as one of the first k writes left it. -/
def Found (d : Dk) (B : Nat → ByteArray) (k i : Nat) : Prop := B i = d.B i ∨ ∃ j, j < k ∧ d.A j = (i : Int) ∧ d.D j = B i
theorem Found.more {d : Dk} {B : Nat → ByteArray} {k i : Nat} (h : Found d B k i) : Found d B (k + 1) i := by
  rcases h with h | ⟨j, hj, h1, h2⟩
  · exact .inl h
  · exact .inr ⟨j, by omega, h1, h2⟩
theorem Found.congr {d : Dk} {B B' : Nat → ByteArray} {k i : Nat} (h : Found d B k i) (e : B' i = B i) : Found d B' k i := by
  unfold Found at h ⊢
  rw [e]; exact h
theorem crF_found (d : Dk) (nk : Nat) (K : Nat → Bool) (t : Int) (hA : ∀ i, i < d.nc → 0 ≤ d.A i) : ∀ k, k ≤ d.nc → ((crF d nk K t k).2 = true ∧ ∀ i, Found d (crF d nk K t k).1 k i) ∨ ((crF d nk K t k).2 = false ∧ ∃ x, ∀ i, i ≠ x → Found d (crF d nk K t k).1 k i)
  | 0, _ => .inl ⟨rfl, fun i => .inl rfl⟩
  | k + 1, hk => by
    have ih := crF_found d nk K t hA k (by omega)
    have ha := hA k (by omega)
    have put : ∀ i, (i ≠ (d.A k).toNat → Found d (crF d nk K t k).1 k i) → Found d (fun i => if i = (d.A k).toNat then d.D k else (crF d nk K t k).1 i) (k + 1) i := fun i h => by
      by_cases e : i = (d.A k).toNat
      · exact .inr ⟨k, by omega, by omega, by show d.D k = if i = (d.A k).toNat then d.D k else _; rw [if_pos e]⟩
      · exact (h e).more.congr (by show (if i = (d.A k).toNat then d.D k else _) = _; rw [if_neg e])
    rw [crF]
    by_cases h1 : k < nk ∧ K k = true
    · rw [if_pos h1]
      rcases ih with ⟨q, h⟩ | ⟨q, x, h⟩
      · exact .inl ⟨q, fun i => put i (fun _ => h i)⟩
      · exact .inr ⟨q, x, fun i hi => put i (fun _ => h i hi)⟩
    · rw [if_neg h1]
      rcases ih with ⟨q, h⟩ | ⟨q, x, h⟩
      · rw [if_pos q]
        exact .inr ⟨rfl, (d.A k).toNat, fun i hi => (h i).more.congr (by show (if i = (d.A k).toNat then _ else _) = _; rw [if_neg hi])⟩
      · rw [if_neg (by rw [q]; decide)]
        exact .inr ⟨q, x, fun i hi => (h i hi).more⟩
/-- All blocks but one are found. -/
theorem crashed_found {d : Dk} (hd : d.Ok) (nk : Nat) (K : Nat → Bool) (t : Int) : ∃ x, ∀ i, i ≠ x → Found d (d.crashed nk K t).B d.nc i := by
  rcases crF_found d nk K t (fun i hi => (hd.C i hi).1.1) d.nc (Nat.le_refl _) with ⟨_, h⟩ | ⟨_, x, h⟩
  · exact ⟨0, fun i _ => h i⟩
  · exact ⟨x, h⟩
end Go.Proofs.YtkhglllicblbbaaDoor

/-
  The law FnTears: behind a crash every block but one is as it was or as a write left it.
-/
namespace Go.Proofs.YtkhglllicblbbaaDoor
open Go.ChangeShapes Go.WideShapes Go.ChangeAt Go.RowKit
set_option linter.unusedVariables false
theorem done_nb {d : Dk} (hd : d.Ok) (a : Ac) : (d.done a).nb = d.nb := by
  unfold Dk.done
  split
  · rename_i hf
    unfold Dk.acted
    split
    · rfl
    split
    · rfl
    split
    · rfl
    split
    · rfl
    split
    · rename_i h1 h2 h3 h4 h5
      show d.ns = d.nb
      unfold Dk.fault at hf
      rw [if_neg h1, if_neg (by omega), if_pos h5] at hf
      rcases hd.ns with q | q
      · rw [if_pos q] at hf; cases hf
      · exact q
    · rfl
  · rfl
theorem runD_nb {d : Dk} (hd : d.Ok) (A : Nat → Ac) : ∀ q, (runD d A q).nb = d.nb
  | 0 => rfl
  | q + 1 => (done_nb (runD_ok hd A q) (A q)).trans (runD_nb hd A q)
theorem done_crash (d : Dk) (nk : Nat) (K : Nat → Bool) (t : Int) : d.done ⟨3, 0, ⟨#[]⟩, nk, K, t⟩ = d.crashed nk K t ∧ d.fault ⟨3, 0, ⟨#[]⟩, nk, K, t⟩ = 0 := by
  have f : d.fault ⟨3, 0, ⟨#[]⟩, nk, K, t⟩ = 0 := by unfold Dk.fault; simp
  refine ⟨?_, f⟩
  unfold Dk.done
  rw [if_pos f]
  unfold Dk.acted
  simp
theorem below_drewT (w : World) (q : Nat) : Below w.heap.size w (w.drewN q) := ⟨rfl, rfl, rfl, Nat.le_refl _, fun _ _ => rfl⟩
set_option maxRecDepth 100000 in
set_option maxHeartbeats 8000000 in
theorem law_fnTears (a0 a1 : Option Addr) (n0 c0 n1 c1 : Nat) (zs0 zs1 : List Int) (p0 p1 p2 p3 p4 : Addr) (w : World) (r0 : IsRow .u8 w a0 n0 c0 zs0) (r1 : IsRow .u8 w a1 n1 c1 zs1) (hE : Errs w p0 p1 p2 p3 p4) :
    Calls Tryd.prog 4 #[.slice a0 n0 c0, .slice a1 n1 c1] w fun e w' => e = .returned (.bool true) ∧ Below w.heap.size w w' := by
  have m0 := r0.lenLe
  have m1 := r1.lenLe
  unfold maxLen at m0 m1
  by_cases h0 : (1048576 : Int) < (n0 : Int)
  · clear r0 r1 hE
    go_enter Tryd.func4, Tryd.ntmps4
    go_wp2
    go_ret
    exact ⟨rfl, Below.refl _ _⟩
  by_cases h1 : (1048576 : Int) < (n1 : Int)
  · clear r0 r1 hE
    go_enter Tryd.func4, Tryd.ntmps4
    go_wp2
    go_ret
    exact ⟨rfl, Below.refl _ _⟩
  obtain ⟨y0, hy0, hk0⟩ := code8_of_row r0
  obtain ⟨y1, hy1, hk1⟩ := code8_of_row r1
  have DO : Hid (∀ w : World, Code8 w a0 n0 y0 → Calls Tryd.prog 8 #[.slice a0 n0 c0, .int .i64 4] w fun e w' => SomeAc w.heap.size w' e ∧ Below w.heap.size w w') := fun w h => diskActsOf_ex a0 n0 c0 y0 hy0 (by unfold maxLen; omega) w h
  have FO : Hid (∀ w : World, Code8 w a1 n1 y1 → Calls Tryd.prog 14 #[.slice a1 n1 c1, .int .i64 6] w fun e w' => SomeFl w.heap.size w' e 6 ∧ Below w.heap.size w w') := fun w h => flagsOf_ex a1 n1 c1 y1 hy1 (by unfold maxLen; omega) w h
  have AT : Hid (∀ w : World, IsRow .u8 w a1 n1 c1 zs1 → Calls Tryd.prog 15 #[.slice a1 n1 c1, .int .i64 0, .int .i64 20] w fun e w' => (∃ j : Nat, j < 20 ∧ e = .returned (.int .i64 (j : Int))) ∧ Below w.heap.size w w') := fun w h =>
    (at_is a1 n1 c1 zs1 w h 0 20 (by omega) (by omega) (by omega)).mono fun e w' q => ⟨⟨_, atN_lt _ _ _ _ (by omega), q.1⟩, by obtain ⟨n, hn⟩ := q.2; rw [hn]; exact below_drewT _ _⟩
  have R1 : Hid (IsRow .u8 w a1 n1 c1 zs1) := r1
  have K0 : Hid (Code8 w a0 n0 y0) := hk0
  have K1 : Hid (Code8 w a1 n1 y1) := hk1
  have HE : Hid (Errs w p0 p1 p2 p3 p4) := hE
  clear r0 r1 hE hk0 hk1 hy0 hy1
  go_enter Tryd.func4, Tryd.ntmps4
  go_wp2_with fail
  refine (DO.out _ K0.out).mono ?_
  rintro e v1 ⟨⟨n, A, g, c, hn, rfl, hg, hA, hs⟩, hb1⟩
  have B1 : Hid (Below w.heap.size w v1) := hb1
  have RU : Hid (Calls Tryd.prog 10 #[.int .i64 4, .slice (some ⟨g, 0, none⟩) n c] v1 fun e w' => RetRun v1.heap.size w' e (runD (newD (4 : Int).toNat) A n) n (runC (newD (4 : Int).toNat) A) 0 ∧ Below v1.heap.size v1 w') := specRun_ok 4 (by omega) n hn A hs (some ⟨g, 0, none⟩) c v1 hA
  have hok4 : (newD (4 : Int).toNat).Ok := newD_ok _ (by decide) (by decide)
  have HOK : Hid ((runD (newD (4 : Int).toNat) A n).Ok) := runD_ok hok4 A n
  have HNB : Hid ((runD (newD (4 : Int).toNat) A n).nb = 4) := runD_nb hok4 A n
  generalize runD (newD (4 : Int).toNat) A n = d at *
  generalize runC (newD (4 : Int).toNat) A = CC at *
  clear hA hs hok4 DO hb1 hg K0
  go_wp2_with fail
  refine RU.out.mono ?_
  rintro e v2 ⟨⟨x0, x1, x2, e0, e1, e2, g0, g1, g2, iv, rfl, rd, ge, ir, z0, z1, z2⟩, hb2⟩
  have B2 : Hid (Below w.heap.size w v2) := B1.out.trans (hb2.mono B1.out.size)
  have ZZ : Hid ((x0 = none → e0 = 0) ∧ (x1 = none → e1 = 0) ∧ (x2 = none → e2 = 0)) := ⟨z0, z1, z2⟩
  have L3 : Below v2.heap.size v2 (v2.alloc (.cells #[.slice x0 d.nb e0, .slice x1 d.nc e1, .slice x2 d.ns e2] 28)) := (Below.refl _ _).alloc (Nat.le_refl _) _
  have X3 : Hid (Box3 (v2.alloc (.cells #[.slice x0 d.nb e0, .slice x1 d.nc e1, .slice x2 d.ns e2] 28)) v2.heap.size 28 (.slice x0 d.nb e0) (.slice x1 d.nc e1) (.slice x2 d.ns e2)) := Box3.made _ _ _ _ _
  have B3 : Hid (Below w.heap.size w (v2.alloc (.cells #[.slice x0 d.nb e0, .slice x1 d.nc e1, .slice x2 d.ns e2] 28))) := B2.out.trans (L3.mono B2.out.size)
  have V3 : Hid (DiskV (v2.alloc (.cells #[.slice x0 d.nb e0, .slice x1 d.nc e1, .slice x2 d.ns e2] 28)) d x0 x1 x2) := rd.diskV.below L3
  clear rd ge ir z0 z1 z2 hb2 L3 RU
  go_wp2_with fail
  generalize v2.alloc (.cells #[.slice x0 d.nb e0, .slice x1 d.nc e1, .slice x2 d.ns e2] 28) = v3 at *
  generalize v2.heap.size = qd at *
  refine (FO.out _ (K1.out.below B3.out)).mono ?_
  rintro e v4 ⟨⟨nk, K, gk, ck, hnk, rfl, hgk, hgl, hbo⟩, hb4⟩
  have B4 : Hid (Below w.heap.size w v4) := B3.out.trans (hb4.mono B3.out.size)
  have X4 : Hid (Box3 v4 qd 28 (.slice x0 d.nb e0) (.slice x1 d.nc e1) (.slice x2 d.ns e2)) := X3.out.below hb4
  have V4 : Hid (DiskV v4 d x0 x1 x2) := V3.out.below hb4
  have F4 : Hid (Bools v4 (some ⟨gk, 0, none⟩) nk K) := hbo
  clear hb4 hbo X3 V3 hgk hgl
  go_wp2_with fail
  refine (AT.out _ (R1.out.below B4.out)).mono ?_
  rintro e v5 ⟨⟨t, ht, rfl⟩, hb5⟩
  have L6 : Below v5.heap.size v5 (v5.alloc (.cells #[.int .i64 3, .int .i64 0, .string ⟨#[]⟩, .slice (some ⟨gk, 0, none⟩) nk ck, .int .i64 (t : Int)] 38)) := (Below.refl _ _).alloc (Nat.le_refl _) _
  have hb6 := hb5.trans (L6.mono hb5.size)
  have B6 : Hid (Below w.heap.size w (v5.alloc (.cells #[.int .i64 3, .int .i64 0, .string ⟨#[]⟩, .slice (some ⟨gk, 0, none⟩) nk ck, .int .i64 (t : Int)] 38))) := B4.out.trans (hb6.mono B4.out.size)
  have X6 : Hid (Box3 (v5.alloc (.cells #[.int .i64 3, .int .i64 0, .string ⟨#[]⟩, .slice (some ⟨gk, 0, none⟩) nk ck, .int .i64 (t : Int)] 38)) qd 28 (.slice x0 d.nb e0) (.slice x1 d.nc e1) (.slice x2 d.ns e2)) := X4.out.below hb6
  have V6 : Hid (DiskV (v5.alloc (.cells #[.int .i64 3, .int .i64 0, .string ⟨#[]⟩, .slice (some ⟨gk, 0, none⟩) nk ck, .int .i64 (t : Int)] 38)) d x0 x1 x2) := V4.out.below hb6
  have F6 : Hid (Bools (v5.alloc (.cells #[.int .i64 3, .int .i64 0, .string ⟨#[]⟩, .slice (some ⟨gk, 0, none⟩) nk ck, .int .i64 (t : Int)] 38)) (some ⟨gk, 0, none⟩) nk K) := F4.out.below hb6
  have Y6 : Hid (Box5 (v5.alloc (.cells #[.int .i64 3, .int .i64 0, .string ⟨#[]⟩, .slice (some ⟨gk, 0, none⟩) nk ck, .int .i64 (t : Int)] 38)) v5.heap.size 38 (.int .i64 3) (.int .i64 0) (.string ⟨#[]⟩) (.slice (some ⟨gk, 0, none⟩) nk ck) (.int .i64 (t : Int))) := Box5.made _ _ _ _ _ _ _
  have x30 := X6.out.c0
  have x31 := X6.out.c1
  have x32 := X6.out.c2
  have y30 := Y6.out.c0
  have y31 := Y6.out.c1
  have y32 := Y6.out.c2
  have y33 := Y6.out.c3
  have y34 := Y6.out.c4
  clear hb5 L6 hb6 X4 V4 F4 B4
  have DC := done_crash d nk K (t : Int)
  have SI : Hid (∀ w : World, DiskV w d x0 x1 x2 → Bools w (some ⟨gk, 0, none⟩) nk K → Errs w p0 p1 p2 p3 p4 → Calls Tryd.prog 16 #[.agg #[.slice x0 d.nb e0, .slice x1 d.nc e1, .slice x2 d.ns e2], .agg #[.int .i64 3, .int .i64 0, .string ⟨#[]⟩, .slice (some ⟨gk, 0, none⟩) nk ck, .int .i64 (t : Int)]] w fun e w' => RetD w.heap.size w' e (d.crashed nk K (t : Int)) 0 ∧ Below w.heap.size w w') := fun w h1 h2 h3 => by
    have q := implStep_ok d ⟨3, 0, ⟨#[]⟩, nk, K, (t : Int)⟩ x0 x1 x2 (some ⟨gk, 0, none⟩) e0 e1 e2 ck ZZ.out.1 ZZ.out.2.1 ZZ.out.2.2 ⟨by have := HOK.out.nb2; omega, by have := HOK.out.nc; omega, by have := HOK.out.ns; have := HOK.out.nb2; omega⟩ HOK.out (by show nk ≤ 1048576; omega) p0 p1 p2 p3 p4 w h1 h2.bls h3
    rw [DC.1, DC.2] at q
    exact q
  have SS : Hid (∀ w : World, DiskV w d x0 x1 x2 → Bools w (some ⟨gk, 0, none⟩) nk K → Calls Tryd.prog 18 #[.agg #[.slice x0 d.nb e0, .slice x1 d.nc e1, .slice x2 d.ns e2], .agg #[.int .i64 3, .int .i64 0, .string ⟨#[]⟩, .slice (some ⟨gk, 0, none⟩) nk ck, .int .i64 (t : Int)]] w fun e w' => RetD w.heap.size w' e (d.crashed nk K (t : Int)) 0 ∧ Below w.heap.size w w') := fun w h1 h2 => by
    have q := specStep_ok d ⟨3, 0, ⟨#[]⟩, nk, K, (t : Int)⟩ x0 x1 x2 (some ⟨gk, 0, none⟩) e0 e1 e2 ck ZZ.out.1 ZZ.out.2.1 ZZ.out.2.2 ⟨by have := HOK.out.nb2; omega, by have := HOK.out.nc; omega, by have := HOK.out.ns; have := HOK.out.nb2; omega⟩ HOK.out (by show nk ≤ 1048576; omega) w h1 h2.bls
    rw [DC.1, DC.2] at q
    exact q
  obtain ⟨X, hX⟩ := crashed_found HOK.out nk K (t : Int)
  have HX : Hid (∀ i, i ≠ X → Found d (d.crashed nk K (t : Int)).B d.nc i) := hX
  have HKN : Hid ((d.crashed nk K (t : Int)).nb = d.nb) := rfl
  have hkc : (d.crashed nk K (t : Int)).nc = 0 := rfl
  generalize d.crashed nk K (t : Int) = k at *
  clear DC hX ZZ hnk ht
  go_wp2_with fail
  generalize v5.alloc (.cells #[.int .i64 3, .int .i64 0, .string ⟨#[]⟩, .slice (some ⟨gk, 0, none⟩) nk ck, .int .i64 (t : Int)] 38) = v6 at *
  generalize v5.heap.size = qa at *
  refine (SI.out _ V6.out F6.out (HE.out.below B6.out)).mono ?_
  rintro e v7 ⟨⟨s0, s1, s2, f0, f1, f2, j0, j1, j2, rfl, rd, -⟩, hb7⟩
  have L8 : Below v7.heap.size v7 (v7.alloc (.cells #[.slice s0 k.nb f0, .slice s1 0 f1, .slice s2 k.ns f2] 28)) := (Below.refl _ _).alloc (Nat.le_refl _) _
  have hb8 := hb7.trans (L8.mono hb7.size)
  have B8 : Hid (Below w.heap.size w (v7.alloc (.cells #[.slice s0 k.nb f0, .slice s1 0 f1, .slice s2 k.ns f2] 28))) := B6.out.trans (hb8.mono B6.out.size)
  have X8 : Hid (Box3 (v7.alloc (.cells #[.slice s0 k.nb f0, .slice s1 0 f1, .slice s2 k.ns f2] 28)) qd 28 (.slice x0 d.nb e0) (.slice x1 d.nc e1) (.slice x2 d.ns e2)) := X6.out.below hb8
  have Y8 : Hid (Box5 (v7.alloc (.cells #[.slice s0 k.nb f0, .slice s1 0 f1, .slice s2 k.ns f2] 28)) qa 38 (.int .i64 3) (.int .i64 0) (.string ⟨#[]⟩) (.slice (some ⟨gk, 0, none⟩) nk ck) (.int .i64 (t : Int))) := Y6.out.below hb8
  have V8 : Hid (DiskV (v7.alloc (.cells #[.slice s0 k.nb f0, .slice s1 0 f1, .slice s2 k.ns f2] 28)) d x0 x1 x2) := V6.out.below hb8
  have F8 : Hid (Bools (v7.alloc (.cells #[.slice s0 k.nb f0, .slice s1 0 f1, .slice s2 k.ns f2] 28)) (some ⟨gk, 0, none⟩) nk K) := F6.out.below hb8
  have Z8 : Hid (Box3 (v7.alloc (.cells #[.slice s0 k.nb f0, .slice s1 0 f1, .slice s2 k.ns f2] 28)) v7.heap.size 28 (.slice s0 k.nb f0) (.slice s1 0 f1) (.slice s2 k.ns f2)) := Box3.made _ _ _ _ _
  have S8 : Hid (Strs (v7.alloc (.cells #[.slice s0 k.nb f0, .slice s1 0 f1, .slice s2 k.ns f2] 28)) s0 k.nb k.B) := (rd.diskV.below L8).1
  clear x30 x31 x32 y30 y31 y32 y33 y34 rd L8 hb8 hb7 X6 Y6 V6 F6 B6 SI
  have x30 := X8.out.c0
  have x31 := X8.out.c1
  have x32 := X8.out.c2
  have y30 := Y8.out.c0
  have y31 := Y8.out.c1
  have y32 := Y8.out.c2
  have y33 := Y8.out.c3
  have y34 := Y8.out.c4
  go_wp2_with fail
  generalize v7.alloc (.cells #[.slice s0 k.nb f0, .slice s1 0 f1, .slice s2 k.ns f2] 28) = v8 at *
  generalize v7.heap.size = qx at *
  refine (SS.out _ V8.out F8.out).mono ?_
  rintro e v9 ⟨⟨u0, u1, u2, o0, o1, o2, i0, i1, i2, rfl, rd, -⟩, hb9⟩
  have LA : Below v9.heap.size v9 (v9.alloc (.cells #[.slice u0 k.nb o0, .slice u1 0 o1, .slice u2 k.ns o2] 28)) := (Below.refl _ _).alloc (Nat.le_refl _) _
  have hbA := hb9.trans (LA.mono hb9.size)
  have BA : Hid (Below w.heap.size w (v9.alloc (.cells #[.slice u0 k.nb o0, .slice u1 0 o1, .slice u2 k.ns o2] 28))) := B8.out.trans (hbA.mono B8.out.size)
  have XA : Hid (Box3 (v9.alloc (.cells #[.slice u0 k.nb o0, .slice u1 0 o1, .slice u2 k.ns o2] 28)) qd 28 (.slice x0 d.nb e0) (.slice x1 d.nc e1) (.slice x2 d.ns e2)) := X8.out.below hbA
  have VA : Hid (DiskV (v9.alloc (.cells #[.slice u0 k.nb o0, .slice u1 0 o1, .slice u2 k.ns o2] 28)) d x0 x1 x2) := V8.out.below hbA
  have ZA : Hid (Box3 (v9.alloc (.cells #[.slice u0 k.nb o0, .slice u1 0 o1, .slice u2 k.ns o2] 28)) qx 28 (.slice s0 k.nb f0) (.slice s1 0 f1) (.slice s2 k.ns f2)) := Z8.out.below hbA
  have SA : Hid (Strs (v9.alloc (.cells #[.slice u0 k.nb o0, .slice u1 0 o1, .slice u2 k.ns o2] 28)) s0 k.nb k.B) := S8.out.below hbA
  have UA : Hid (Strs (v9.alloc (.cells #[.slice u0 k.nb o0, .slice u1 0 o1, .slice u2 k.ns o2] 28)) u0 k.nb k.B) := (rd.diskV.below LA).1
  have WA : Hid (Box3 (v9.alloc (.cells #[.slice u0 k.nb o0, .slice u1 0 o1, .slice u2 k.ns o2] 28)) v9.heap.size 28 (.slice u0 k.nb o0) (.slice u1 0 o1) (.slice u2 k.ns o2)) := Box3.made _ _ _ _ _
  clear x30 x31 x32 y30 y31 y32 y33 y34 rd LA hbA hb9 X8 Y8 V8 F8 B8 Z8 S8 SS
  have x30 := XA.out.c0
  have x31 := XA.out.c1
  have z30 := ZA.out.c0
  have z31 := ZA.out.c1
  have w30 := WA.out.c0
  have HKB : Hid (k.nb ≤ 1048576) := by have := HKN.out; have := HNB.out; show k.nb ≤ 1048576; omega
  go_wp2_with fail
  generalize v9.alloc (.cells #[.slice u0 k.nb o0, .slice u1 0 o1, .slice u2 k.ns o2] 28) = vA at *
  generalize v9.heap.size = qw at *
  refine (sameTexts_yes s0 u0 k.nb f0 o0 k.B k.B vA SA.out UA.out (fun _ _ => rfl) HKB.out).mono ?_
  rintro e vB ⟨rfl, qq, rfl⟩
  have nb4 : d.nb = 4 := HNB.out
  have kb4 : k.nb = 4 := HKN.out.trans HNB.out
  obtain ⟨bs, os, rfl, hcs⟩ := SA.out.opened (by omega)
  obtain ⟨bx, ox, rfl, hcx⟩ := VA.out.1.opened (by omega)
  have CS : Hid (∀ i, i < 4 → vA.cell? ⟨bs, os + i, none⟩ = some (.string (k.B i))) := fun i hi => hcs i (by omega)
  have CX : Hid (∀ i, i < 4 → vA.cell? ⟨bx, ox + i, none⟩ = some (.string (d.B i))) := fun i hi => hcx i (by omega)
  have PP : Hid (Pens vA x1 d.nc d.A d.D) := VA.out.2.1
  have HI : Hid (∀ I : Nat, I < 4 → (I : Int) < (k.nb : Int) ∧ (I : Int) < (d.nb : Int)) := fun I h => ⟨by omega, by omega⟩
  have HNC : Hid (d.nc ≤ 4096) := HOK.out.nc
  clear nb4 kb4 hcs hcx SA UA VA WA ZA XA w30 HKB HKN HNB HOK HE K1 R1 B1 B2 B3 FO AT
  go_wp2_with fail
  clear z31
  go_loopw [13, 14] (fun t i wr => ∃ I T : Nat, I ≤ 4 ∧ i = .int .i64 I ∧ t = .int .i64 T ∧ T ≤ (if X < I then 1 else 0) ∧ ∃ q, wr = vA.drewN q) (fun _ i _ => 4 - (intOf i).toNat)
  case atStart => exact ⟨0, 0, by omega, rfl, rfl, Nat.zero_le _, qq, rfl⟩
  case round =>
    obtain ⟨I, T, hI, rfl, rfl, hT, q, rfl⟩ := hrel
    have HT : Hid (T ≤ (if X < I then 1 else 0)) := hT
    have hT1 : T ≤ 1 := by have := hT; split at this <;> omega
    clear hT
    by_cases hlt : I < 4
    · have hlt' : (I : Int) < 4 := by omega
      have cc1 := CS.out I hlt
      have cc2 := CX.out I hlt
      have l1 := (HI.out I hlt).1
      have l2 := (HI.out I hlt).2
      have HV : Hid (∃ V, V = k.B I) := ⟨_, rfl⟩
      obtain ⟨V, hV⟩ := HV.out
      obtain ⟨U, hU⟩ : ∃ U, U = d.B I := ⟨_, rfl⟩
      have HVV : Hid (V = k.B I) := hV
      have HUU : Hid (U = d.B I) := hU
      rw [← hV] at cc1
      rw [← hU] at cc2
      clear hV hU HV
      go_wp2
      go_quiet (fail)
      have HF0 : Hid (Found d k.B 0 I → (V.toList == U.toList) = true) := fun h => by
        rcases h with h | ⟨j, hj, _⟩
        · rw [HVV.out, HUU.out, h]; simp
        · omega
      generalize (V.toList == U.toList) = F0 at *
      clear cc2 HUU
      go_wp2_with fail
      go_loopw [15, 16] (fun f j wr => ∃ (J : Nat) (F : Bool), J ≤ d.nc ∧ j = .int .i64 J ∧ f = .bool F ∧ (Found d k.B J I → F = true) ∧ ∃ q, wr = vA.drewN q) (fun _ j _ => d.nc - (intOf j).toNat)
      case atStart => exact ⟨0, F0, Nat.zero_le _, rfl, rfl, HF0.out, _, by first | rfl | rw [World.drewN_drewN]⟩
      case round =>
        clear HF0
        obtain ⟨J, F, hJ, rfl, rfl, hF, q2, rfl⟩ := hrel
        have HF : Hid (Found d k.B J I → F = true) := hF
        clear hF
        have j4 : d.nc ≤ 4096 := HNC.out
        by_cases hjl : J < d.nc
        · have hjl' : (J : Int) < (d.nc : Int) := by omega
          cases F with
          | true =>
            go_wp2
            go_quiet (fail)
            go_wp2
            go_roundw
            case rel => exact ⟨J + 1, true, by omega, by go_num, rfl, fun _ => rfl, _, by first | rfl | rw [World.drewN_drewN]⟩
            case measure => simp [intOf]; omega
          | false =>
            obtain ⟨bp, op, hx1, cp1, cp2⟩ := PP.out J hjl
            subst hx1
            have HD : Hid (∃ D, D = d.D J) := ⟨_, rfl⟩
            obtain ⟨D, hD⟩ := HD.out
            have HDD : Hid (D = d.D J) := hD
            rw [← hD] at cp2
            clear hD HD
            by_cases hA : d.A J = (I : Int)
            · rw [hA] at cp1
              have HA : Hid (d.A J = (I : Int)) := hA
              have HG : Hid (Found d k.B (J + 1) I → (D.toList == V.toList) = true) := fun h => by
                rcases h with h | ⟨j, hj, ha, hd⟩
                · exact absurd (HF.out (.inl h)) (by decide)
                · by_cases e : j = J
                  · subst e
                    rw [HDD.out, hd, HVV.out]; simp
                  · exact absurd (HF.out (.inr ⟨j, by omega, ha, hd⟩)) (by decide)
              clear hA
              go_wp2
              go_quiet (fail)
              go_wp2
              go_roundw
              case rel => exact ⟨J + 1, _, by omega, by go_num, rfl, HG.out, _, by first | rfl | rw [World.drewN_drewN]⟩
              case measure => simp [intOf]; omega
            · have hA' : (d.A J == (I : Int)) = false := by rw [beq_eq_false_iff_ne]; exact hA
              have HG : Hid (Found d k.B (J + 1) I → false = true) := fun h => by
                rcases h with h | ⟨j, hj, ha, hd⟩
                · exact HF.out (.inl h)
                · by_cases e : j = J
                  · subst e
                    exact absurd ha hA
                  · exact HF.out (.inr ⟨j, by omega, ha, hd⟩)
              go_wp2
              go_quiet (fail)
              go_wp2
              go_roundw
              case rel => exact ⟨J + 1, false, by omega, by go_num, rfl, HG.out, _, by first | rfl | rw [World.drewN_drewN]⟩
              case measure => simp [intOf]; omega
        · obtain rfl : J = d.nc := by omega
          cases F with
          | true =>
            have HT2 : Hid (T ≤ (if X < I + 1 then 1 else 0)) := by
              have h := HT.out
              show T ≤ (if X < I + 1 then 1 else 0)
              split at h
              · rw [if_pos (by omega)]; exact h
              · exact Nat.le_trans h (Nat.zero_le _)
            go_wp2
            go_roundw
            case rel => exact ⟨I + 1, T, by omega, by go_num, rfl, HT2.out, _, by first | rfl | rw [World.drewN_drewN]⟩
            case measure => simp [intOf]; omega
          | false =>
            have HT2 : Hid (T + 1 ≤ (if X < I + 1 then 1 else 0)) := by
              have h := HT.out
              have e : I = X := by
                rcases Nat.decEq I X with e | e
                · exact absurd (HF.out (HX.out I e)) (by decide)
                · exact e
              show T + 1 ≤ (if X < I + 1 then 1 else 0)
              rw [if_neg (by omega)] at h
              rw [if_pos (by omega)]
              omega
            go_wp2
            go_roundw
            case rel => exact ⟨I + 1, T + 1, by omega, by go_num, by go_num, HT2.out, _, by first | rfl | rw [World.drewN_drewN]⟩
            case measure => simp [intOf]; omega
    · have BZ : Hid (Below w.heap.size w (vA.drewN q)) := BA.out.trans ((below_drewT _ _).mono BA.out.size)
      have hT2 : (T : Int) ≤ 1 := by omega
      go_wp2
      go_ret
      exact ⟨rfl, BZ.out⟩
end Go.Proofs.YtkhglllicblbbaaDoor

/-
  The law FnDisk: what is read is what was written last; behind a sync a crash changes nothing.
-/
namespace Go.Proofs.YtkhglllicblbbaaDoor
open Go.ChangeShapes Go.WideShapes Go.ChangeAt Go.RowKit
set_option linter.unusedVariables false
theorem Nums.below {w w' : World} {a : Option Addr} {n : Nat} {f : Nat → Int} (h : Nums w a n f) (hb : Below w.heap.size w w') : Nums w' a n f := fun i hi => by
  obtain ⟨b, off, ha, hc⟩ := h i hi
  exact ⟨b, off, ha, (hb.cell (strBlock hc)).trans hc⟩
theorem Dk.Ok.small {d : Dk} (h : d.Ok) : d.Small := ⟨by have := h.nb2; omega, by have := h.nc; omega, by have := h.ns; have := h.nb2; omega⟩
set_option maxRecDepth 100000 in
set_option maxHeartbeats 8000000 in
theorem law_fnDisk (a0 a1 : Option Addr) (n0 c0 n1 c1 : Nat) (zs0 zs1 : List Int) (p0 p1 p2 p3 p4 : Addr) (w : World) (r0 : IsRow .u8 w a0 n0 c0 zs0) (r1 : IsRow .u8 w a1 n1 c1 zs1) (hE : Errs w p0 p1 p2 p3 p4) :
    Calls Tryd.prog 3 #[.slice a0 n0 c0, .slice a1 n1 c1] w fun e w' => e = .returned (.bool true) ∧ Below w.heap.size w w' := by
  have m0 := r0.lenLe
  have m1 := r1.lenLe
  unfold maxLen at m0 m1
  by_cases h0 : (1048576 : Int) < (n0 : Int)
  · clear r0 r1 hE
    go_enter Tryd.func3, Tryd.ntmps3
    go_wp2
    go_ret
    exact ⟨rfl, Below.refl _ _⟩
  by_cases h1 : (1048576 : Int) < (n1 : Int)
  · clear r0 r1 hE
    go_enter Tryd.func3, Tryd.ntmps3
    go_wp2
    go_ret
    exact ⟨rfl, Below.refl _ _⟩
  obtain ⟨y0, hy0, hk0⟩ := code8_of_row r0
  obtain ⟨y1, hy1, hk1⟩ := code8_of_row r1
  have DO : Hid (∀ w : World, Code8 w a0 n0 y0 → Calls Tryd.prog 8 #[.slice a0 n0 c0, .int .i64 4] w fun e w' => SomeAc w.heap.size w' e ∧ Below w.heap.size w w') := fun w h => diskActsOf_ex a0 n0 c0 y0 hy0 (by unfold maxLen; omega) w h
  have FO : Hid (∀ w : World, Code8 w a1 n1 y1 → Calls Tryd.prog 14 #[.slice a1 n1 c1, .int .i64 6] w fun e w' => SomeFl w.heap.size w' e 6 ∧ Below w.heap.size w w') := fun w h => flagsOf_ex a1 n1 c1 y1 hy1 (by unfold maxLen; omega) w h
  have AT : Hid (∀ (i m : Nat) (w : World), i ≤ 100 → 2 ≤ m → m ≤ 100 → IsRow .u8 w a1 n1 c1 zs1 → Calls Tryd.prog 15 #[.slice a1 n1 c1, .int .i64 (i : Int), .int .i64 (m : Int)] w fun e w' => (∃ j : Nat, j < m ∧ e = .returned (.int .i64 (j : Int))) ∧ Below w.heap.size w w') := fun i m w h1 h2 h3 h =>
    (at_is a1 n1 c1 zs1 w h i m (by omega) (by omega) (by omega)).mono fun e w' q => ⟨⟨_, atN_lt _ _ _ _ (by omega), q.1⟩, by obtain ⟨n, hn⟩ := q.2; rw [hn]; exact below_drewT _ _⟩
  have R1 : Hid (IsRow .u8 w a1 n1 c1 zs1) := r1
  have K0 : Hid (Code8 w a0 n0 y0) := hk0
  have K1 : Hid (Code8 w a1 n1 y1) := hk1
  have HE : Hid (Errs w p0 p1 p2 p3 p4) := hE
  clear r0 r1 hE hk0 hk1 hy0 hy1
  go_enter Tryd.func3, Tryd.ntmps3
  go_wp2_with fail
  refine (DO.out _ K0.out).mono ?_
  rintro e v1 ⟨⟨n, A, g, c, hn, rfl, hg, hA, hs⟩, hb1⟩
  have B1 : Hid (Below w.heap.size w v1) := hb1
  clear hb1 DO K0
  by_cases hmx : (120 : Int) < (n : Int) + 2
  · clear hA hs
    go_wp2
    go_ret
    exact ⟨rfl, B1.out⟩
  have hn2 : n + 2 ≤ 120 := by omega
  have hok4 : (newD (4 : Int).toNat).Ok := newD_ok _ (by decide) (by decide)
  have RI : Hid (∀ w : World, Acts w (some ⟨g, 0, none⟩) n A → Errs w p0 p1 p2 p3 p4 → Calls Tryd.prog 9 #[.int .i64 4, .slice (some ⟨g, 0, none⟩) n c] w fun e w' => RetRun w.heap.size w' e (runD (newD (4 : Int).toNat) A n) n (runC (newD (4 : Int).toNat) A) 0 ∧ Below w.heap.size w w') := fun w h1 h2 => implRun_ok 4 (by omega) n hn A hs (some ⟨g, 0, none⟩) c p0 p1 p2 p3 p4 w h1 h2
  have RS : Hid (∀ w : World, Acts w (some ⟨g, 0, none⟩) n A → Calls Tryd.prog 10 #[.int .i64 4, .slice (some ⟨g, 0, none⟩) n c] w fun e w' => RetRun w.heap.size w' e (runD (newD (4 : Int).toNat) A n) n (runC (newD (4 : Int).toNat) A) 0 ∧ Below w.heap.size w w') := fun w h1 => specRun_ok 4 (by omega) n hn A hs (some ⟨g, 0, none⟩) c w h1
  have HOK : Hid ((runD (newD (4 : Int).toNat) A n).Ok) := runD_ok hok4 A n
  have HNB : Hid ((runD (newD (4 : Int).toNat) A n).nb = 4) := runD_nb hok4 A n
  have HNC : Hid ((runD (newD (4 : Int).toNat) A n).nc ≤ 120) := by
    have h := runD_nc (newD (4 : Int).toNat) A n
    have h2 : (newD (4 : Int).toNat).nc = 0 := rfl
    show (runD (newD (4 : Int).toNat) A n).nc ≤ 120
    omega
  have HRE : Hid (∀ (A' : Nat → Ac) (x y : Int) (s r : ByteArray) (nk ml : Nat) (K M : Nat → Bool) (t u : Int), (∀ i, i < n → A i = A' i) → A' n = ⟨2, x, s, nk, K, t⟩ → A' (n + 1) = ⟨3, y, r, ml, M, u⟩ → runD (newD (4 : Int).toNat) A' (n + 2) = ((runD (newD (4 : Int).toNat) A n).synced).crashed ml M u) := fun A' x y s r nk ml K M t u h1 h2 h3 => runD_end _ A A' n x y s r nk ml K M t u h1 h2 h3
  have HROK : Hid (∀ (A' : Nat → Ac) (q : Nat), (runD (newD (4 : Int).toNat) A' q).Ok) := fun A' q => runD_ok hok4 A' q
  have RI2 : Hid (∀ (A' : Nat → Ac) (g' c' : Nat) (w : World), (∀ i, i < n + 2 → (A' i).s.size ≤ 65536 ∧ (A' i).nk ≤ 4096) → Acts w (some ⟨g', 0, none⟩) (n + 2) A' → Errs w p0 p1 p2 p3 p4 → Calls Tryd.prog 9 #[.int .i64 4, .slice (some ⟨g', 0, none⟩) (n + 2) c'] w fun e w' => RetRun w.heap.size w' e (runD (newD (4 : Int).toNat) A' (n + 2)) (n + 2) (runC (newD (4 : Int).toNat) A') 0 ∧ Below w.heap.size w w') := fun A' g' c' w h0 h1 h2 => implRun_ok 4 (by omega) (n + 2) hn2 A' h0 (some ⟨g', 0, none⟩) c' p0 p1 p2 p3 p4 w h1 h2
  have HS : Hid (∀ i, i < n → (A i).s.size ≤ 65536 ∧ (A i).nk ≤ 4096) := hs
  have HA : Hid (Acts v1 (some ⟨g, 0, none⟩) n A) := hA
  generalize newD (4 : Int).toNat = dz at *
  generalize hd : runD dz A n = d at *
  generalize runC dz A = CC at *
  clear hA hs hok4 hg hd
  go_wp2_with fail
  refine (RI.out _ HA.out (HE.out.below B1.out)).mono ?_
  rintro e v2 ⟨⟨x0, x1, x2, e0, e1, e2, g0, g1, g2, iv, rfl, rd, ge, ir, z0, z1, z2⟩, hb2⟩
  obtain ⟨ia, ic, rfl, inn⟩ := ir.nums
  have ZZ : Hid ((x0 = none → e0 = 0) ∧ (x1 = none → e1 = 0) ∧ (x2 = none → e2 = 0)) := ⟨z0, z1, z2⟩
  have L3 : Below v2.heap.size v2 (v2.alloc (.cells #[.slice x0 d.nb e0, .slice x1 d.nc e1, .slice x2 d.ns e2] 28)) := (Below.refl _ _).alloc (Nat.le_refl _) _
  have hb3 := hb2.trans (L3.mono hb2.size)
  have B3 : Hid (Below w.heap.size w (v2.alloc (.cells #[.slice x0 d.nb e0, .slice x1 d.nc e1, .slice x2 d.ns e2] 28))) := B1.out.trans (hb3.mono B1.out.size)
  have X3 : Hid (Box3 (v2.alloc (.cells #[.slice x0 d.nb e0, .slice x1 d.nc e1, .slice x2 d.ns e2] 28)) v2.heap.size 28 (.slice x0 d.nb e0) (.slice x1 d.nc e1) (.slice x2 d.ns e2)) := Box3.made _ _ _ _ _
  have D3 : Hid (DiskV (v2.alloc (.cells #[.slice x0 d.nb e0, .slice x1 d.nc e1, .slice x2 d.ns e2] 28)) d x0 x1 x2) := rd.diskV.below L3
  have I3 : Hid (Nums (v2.alloc (.cells #[.slice x0 d.nb e0, .slice x1 d.nc e1, .slice x2 d.ns e2] 28)) ia n CC) := inn.below L3
  have A3 : Hid (Acts (v2.alloc (.cells #[.slice x0 d.nb e0, .slice x1 d.nc e1, .slice x2 d.ns e2] 28)) (some ⟨g, 0, none⟩) n A) := HA.out.below hb3
  clear rd ge ir z0 z1 z2 hb2 L3 hb3 inn HA RI B1
  go_wp2_with fail
  generalize (v2.alloc (.cells #[.slice x0 d.nb e0, .slice x1 d.nc e1, .slice x2 d.ns e2] 28)) = v3 at *
  generalize v2.heap.size = qd at *
  refine (RS.out _ A3.out).mono ?_
  rintro e v4 ⟨⟨s0, s1, s2, f0, f1, f2, j0, j1, j2, jv, rfl, rd, ge, ir, -⟩, hb4⟩
  obtain ⟨ja, jc, rfl, jnn⟩ := ir.nums
  have L5 : Below v4.heap.size v4 (v4.alloc (.cells #[.slice s0 d.nb f0, .slice s1 d.nc f1, .slice s2 d.ns f2] 28)) := (Below.refl _ _).alloc (Nat.le_refl _) _
  have hb5 := hb4.trans (L5.mono hb4.size)
  have B5 : Hid (Below w.heap.size w (v4.alloc (.cells #[.slice s0 d.nb f0, .slice s1 d.nc f1, .slice s2 d.ns f2] 28))) := B3.out.trans (hb5.mono B3.out.size)
  have X5 : Hid (Box3 (v4.alloc (.cells #[.slice s0 d.nb f0, .slice s1 d.nc f1, .slice s2 d.ns f2] 28)) qd 28 (.slice x0 d.nb e0) (.slice x1 d.nc e1) (.slice x2 d.ns e2)) := X3.out.below hb5
  have W5 : Hid (Box3 (v4.alloc (.cells #[.slice s0 d.nb f0, .slice s1 d.nc f1, .slice s2 d.ns f2] 28)) v4.heap.size 28 (.slice s0 d.nb f0) (.slice s1 d.nc f1) (.slice s2 d.ns f2)) := Box3.made _ _ _ _ _
  have D5 : Hid (DiskV (v4.alloc (.cells #[.slice s0 d.nb f0, .slice s1 d.nc f1, .slice s2 d.ns f2] 28)) d x0 x1 x2) := D3.out.below hb5
  have E5 : Hid (DiskV (v4.alloc (.cells #[.slice s0 d.nb f0, .slice s1 d.nc f1, .slice s2 d.ns f2] 28)) d s0 s1 s2) := rd.diskV.below L5
  have I5 : Hid (Nums (v4.alloc (.cells #[.slice s0 d.nb f0, .slice s1 d.nc f1, .slice s2 d.ns f2] 28)) ia n CC) := I3.out.below hb5
  have J5 : Hid (Nums (v4.alloc (.cells #[.slice s0 d.nb f0, .slice s1 d.nc f1, .slice s2 d.ns f2] 28)) ja n CC) := jnn.below L5
  have A5 : Hid (Acts (v4.alloc (.cells #[.slice s0 d.nb f0, .slice s1 d.nc f1, .slice s2 d.ns f2] 28)) (some ⟨g, 0, none⟩) n A) := A3.out.below hb5
  clear rd ge ir hb4 L5 hb5 jnn A3 RS B3 X3 D3 I3
  have x30 := X5.out.c0
  have x31 := X5.out.c1
  have x32 := X5.out.c2
  have w30 := W5.out.c0
  have w31 := W5.out.c1
  have w32 := W5.out.c2
  go_wp2_with fail
  generalize (v4.alloc (.cells #[.slice s0 d.nb f0, .slice s1 d.nc f1, .slice s2 d.ns f2] 28)) = v5 at *
  generalize v4.heap.size = qw at *
  clear x30 x31 x32 w30 w31 w32
  refine (implSame_ok d d x0 x1 x2 s0 s1 s2 e0 e1 e2 f0 f1 f2 true ⟨fun _ => ⟨rfl, fun _ _ => rfl⟩, fun _ => rfl⟩ HOK.out.small HOK.out.small HOK.out HOK.out p0 p1 v5 D5.out E5.out (HE.out.below B5.out).e0 (HE.out.below B5.out).e1).mono ?_
  rintro e v6 ⟨rfl, hb6⟩
  have B6 : Hid (Below w.heap.size w v6) := B5.out.trans (hb6.mono B5.out.size)
  have X6 : Hid (Box3 v6 qd 28 (.slice x0 d.nb e0) (.slice x1 d.nc e1) (.slice x2 d.ns e2)) := X5.out.below hb6
  have D6 : Hid (DiskV v6 d x0 x1 x2) := D5.out.below hb6
  have I6 : Hid (Nums v6 ia n CC) := I5.out.below hb6
  have J6 : Hid (Nums v6 ja n CC) := J5.out.below hb6
  have A6 : Hid (Acts v6 (some ⟨g, 0, none⟩) n A) := A5.out.below hb6
  clear hb6 B5 X5 W5 D5 E5 I5 J5 A5
  have x30 := X6.out.c0
  have x31 := X6.out.c1
  have x32 := X6.out.c2
  go_wp2_with fail
  refine (sameNums_yes ia ja n ic jc CC v6 I6.out J6.out (by omega)).mono ?_
  rintro e v7 ⟨rfl, qq, rfl⟩
  have hb7 := below_drewT v6 qq
  have B7 : Hid (Below w.heap.size w (v6.drewN qq)) := B6.out.trans (hb7.mono B6.out.size)
  have X7 : Hid (Box3 (v6.drewN qq) qd 28 (.slice x0 d.nb e0) (.slice x1 d.nc e1) (.slice x2 d.ns e2)) := X6.out.below hb7
  have D7 : Hid (DiskV (v6.drewN qq) d x0 x1 x2) := D6.out.below hb7
  have A7 : Hid (Acts (v6.drewN qq) (some ⟨g, 0, none⟩) n A) := A6.out.below hb7
  clear hb7 B6 X6 D6 I6 J6 A6 x30 x31 x32
  generalize v6.drewN qq = v7 at *
  have x30 := X7.out.c0
  have x31 := X7.out.c1
  have x32 := X7.out.c2
  go_wp2_with fail
  refine (implOK_any d x0 x1 x2 e0 e1 e2 HOK.out.small p0 p1 v7 D7.out (HE.out.below B7.out).e0 (HE.out.below B7.out).e1).mono ?_
  rintro e v8 ⟨rfl, hb8⟩
  have hokd : d.ok = true := Dk.ok_true HOK.out
  rw [hokd]
  have B8 : Hid (Below w.heap.size w v8) := B7.out.trans (hb8.mono B7.out.size)
  have X8 : Hid (Box3 v8 qd 28 (.slice x0 d.nb e0) (.slice x1 d.nc e1) (.slice x2 d.ns e2)) := X7.out.below hb8
  have D8 : Hid (DiskV v8 d x0 x1 x2) := D7.out.below hb8
  obtain ⟨AK, CK, hAK⟩ := (A7.out.below hb8).told
  have LE : Below v8.heap.size v8 (v8.alloc (.cells #[] 38)) := (Below.refl _ _).alloc (Nat.le_refl _) _
  obtain ⟨g1', c1', w9, hr1, hr2, hr3, hr4⟩ := appAcN (v8.alloc (.cells #[] 38)) v8.heap.size v8.heap.size 0 n c g 0 A AK CK 23 LE.size (by omega) (AcR.lit v8 v8.heap.size (Nat.le_refl _) A AK CK) (fun i hi => (hAK i hi).1.below LE)
  have HR1 : Hid _ := hr1
  have bl9 : Below v8.heap.size v8 w9 := LE.trans (hr3.toBelow (Nat.le_refl _) LE.size)
  have hg1 := World.ownsRow.lt hr2 g1' rfl
  have B9 : Hid (Below w.heap.size w w9) := B8.out.trans (bl9.mono B8.out.size)
  clear hb8 B7 X7 D7 A7 x30 x31 x32 hokd hr1 hr3 hr4 LE
  go_wp2_with (at_builtin; refine Lib.wpList_append_run _ rfl (.tmp 78) (.tmp 79) _ _ rfl _ _ rfl rfl _ _ HR1.out ?_)
  refine (FO.out _ (K1.out.below B9.out)).mono ?_
  rintro e w10 ⟨⟨nk, K, gk, ck, hnk, rfl, hgk, hgl, hbo⟩, hb10⟩
  have B10 : Hid (Below w.heap.size w w10) := B9.out.trans (hb10.mono B9.out.size)
  go_wp2_with fail
  refine (AT.out 0 20 _ (by omega) (by omega) (by omega) (R1.out.below B10.out)).mono ?_
  rintro e w11 ⟨⟨t, ht, rfl⟩, hb11⟩
  have L12 : Below w11.heap.size w11 (w11.alloc (.cells #[.int .i64 2, .int .i64 0, .string ⟨#[]⟩, .slice none 0 0, .int .i64 0, .int .i64 3, .int .i64 0, .string ⟨#[]⟩, .slice (some ⟨gk, 0, none⟩) nk ck, .int .i64 (t : Int)] 38)) := (Below.refl _ _).alloc (Nat.le_refl _) _
  have bl12 : Below w9.heap.size w9 (w11.alloc (.cells #[.int .i64 2, .int .i64 0, .string ⟨#[]⟩, .slice none 0 0, .int .i64 0, .int .i64 3, .int .i64 0, .string ⟨#[]⟩, .slice (some ⟨gk, 0, none⟩) nk ck, .int .i64 (t : Int)] 38)) := hb10.trans ((hb11.trans (L12.mono hb11.size)).mono hb10.size)
  have hxx : ActC (w11.alloc (.cells #[.int .i64 2, .int .i64 0, .string ⟨#[]⟩, .slice none 0 0, .int .i64 0, .int .i64 3, .int .i64 0, .string ⟨#[]⟩, .slice (some ⟨gk, 0, none⟩) nk ck, .int .i64 (t : Int)] 38)) w11.heap.size 0 ⟨2, 0, ⟨#[]⟩, 0, fun _ => false, 0⟩ none 0 := ⟨by simp, by simp, by simp, by simp, by simp⟩
  have hyy : ActC (w11.alloc (.cells #[.int .i64 2, .int .i64 0, .string ⟨#[]⟩, .slice none 0 0, .int .i64 0, .int .i64 3, .int .i64 0, .string ⟨#[]⟩, .slice (some ⟨gk, 0, none⟩) nk ck, .int .i64 (t : Int)] 38)) w11.heap.size 5 ⟨3, 0, ⟨#[]⟩, nk, K, (t : Int)⟩ (some ⟨gk, 0, none⟩) ck := ⟨by simp, by simp, by simp, by simp, by simp⟩
  obtain ⟨g2', c2', w13, hs1, hs2, hs3, hs4⟩ := appAc2 (w11.alloc (.cells #[.int .i64 2, .int .i64 0, .string ⟨#[]⟩, .slice none 0 0, .int .i64 0, .int .i64 3, .int .i64 0, .string ⟨#[]⟩, .slice (some ⟨gk, 0, none⟩) nk ck, .int .i64 (t : Int)] 38)) v8.heap.size g1' n c1' A AK CK w11.heap.size ⟨2, 0, ⟨#[]⟩, 0, fun _ => false, 0⟩ ⟨3, 0, ⟨#[]⟩, nk, K, (t : Int)⟩ none (some ⟨gk, 0, none⟩) 0 ck 23 (by have := bl9.size; have := bl12.size; omega) (by omega) (acR_below hr2 bl12) hxx hyy
  have HR2 : Hid _ := hs1
  have bl13 : Below v8.heap.size v8 w13 := (bl9.trans (bl12.mono bl9.size)).trans (hs3.toBelow hg1.1 (by have := bl9.size; have := bl12.size; omega))
  have B13 : Hid (Below w.heap.size w w13) := B8.out.trans (bl13.mono B8.out.size)
  have AC13 : Hid (Acts w13 (some ⟨g2', 0, none⟩) (n + 2) (updF (updF A n ⟨2, 0, ⟨#[]⟩, 0, fun _ => false, 0⟩) (n + 1) ⟨3, 0, ⟨#[]⟩, nk, K, (t : Int)⟩)) := fun i hi => by
    refine ⟨g2', 0, _, _, rfl, hs2.cells i hi, ?_⟩
    by_cases e2 : i = n + 1
    · subst e2
      rw [updF_same, updF_same]
      have q := (hbo.below (hb11.trans (L12.mono hb11.size)))
      exact q.keepD (fun b' o' s' e => by cases e; exact hs3.block gk (by have := hb11.size; have := L12.size; omega) (by omega))
    · rw [updF_ne _ _ _ e2, updF_ne _ _ _ e2]
      by_cases e1 : i = n
      · subst e1
        rw [updF_same, updF_same]
        exact fun j hj => absurd hj (Nat.not_lt_zero j)
      · rw [updF_ne _ _ _ e1, updF_ne _ _ _ e1]
        exact (hAK i (by omega)).2.below bl13
  have SZ13 : Hid (∀ i, i < n + 2 → ((updF (updF A n ⟨2, 0, ⟨#[]⟩, 0, fun _ => false, 0⟩) (n + 1) ⟨3, 0, ⟨#[]⟩, nk, K, (t : Int)⟩) i).s.size ≤ 65536 ∧ ((updF (updF A n ⟨2, 0, ⟨#[]⟩, 0, fun _ => false, 0⟩) (n + 1) ⟨3, 0, ⟨#[]⟩, nk, K, (t : Int)⟩) i).nk ≤ 4096) := fun i hi => by
    by_cases e2 : i = n + 1
    · subst e2
      rw [updF_same]
      exact ⟨by show (ByteArray.mk #[]).size ≤ 65536; decide, by show nk ≤ 4096; omega⟩
    · rw [updF_ne _ _ _ e2]
      by_cases e1 : i = n
      · subst e1
        rw [updF_same]
        exact ⟨by decide, by show 0 ≤ 4096; omega⟩
      · rw [updF_ne _ _ _ e1]
        exact HS.out i (by omega)
  have hk : runD dz (updF (updF A n ⟨2, 0, ⟨#[]⟩, 0, fun _ => false, 0⟩) (n + 1) ⟨3, 0, ⟨#[]⟩, nk, K, (t : Int)⟩) (n + 2) = (d.synced).crashed nk K (t : Int) := HRE.out (updF (updF A n ⟨2, 0, ⟨#[]⟩, 0, fun _ => false, 0⟩) (n + 1) ⟨3, 0, ⟨#[]⟩, nk, K, (t : Int)⟩) 0 0 ⟨#[]⟩ ⟨#[]⟩ 0 nk (fun _ => false) K 0 (t : Int) (fun i hi => by rw [updF_ne _ _ _ (by omega), updF_ne _ _ _ (by omega)]) (by rw [updF_ne _ _ _ (by omega), updF_same]) (by rw [updF_same])
  have KOK : Hid ((runD dz (updF (updF A n ⟨2, 0, ⟨#[]⟩, 0, fun _ => false, 0⟩) (n + 1) ⟨3, 0, ⟨#[]⟩, nk, K, (t : Int)⟩) (n + 2)).Ok) := HROK.out _ _
  have KSM : Hid (Same d (runD dz (updF (updF A n ⟨2, 0, ⟨#[]⟩, 0, fun _ => false, 0⟩) (n + 1) ⟨3, 0, ⟨#[]⟩, nk, K, (t : Int)⟩) (n + 2))) := by rw [hk]; exact same_end d nk K (t : Int)
  have KNC : Hid ((runD dz (updF (updF A n ⟨2, 0, ⟨#[]⟩, 0, fun _ => false, 0⟩) (n + 1) ⟨3, 0, ⟨#[]⟩, nk, K, (t : Int)⟩) (n + 2)).nc = 0) := by rw [hk]; rfl
  have RZ : Hid (Calls Tryd.prog 9 #[.int .i64 4, .slice (some ⟨g2', 0, none⟩) (n + 2) c2'] w13 fun e w' => RetRun w13.heap.size w' e (runD dz (updF (updF A n ⟨2, 0, ⟨#[]⟩, 0, fun _ => false, 0⟩) (n + 1) ⟨3, 0, ⟨#[]⟩, nk, K, (t : Int)⟩) (n + 2)) (n + 2) (runC dz (updF (updF A n ⟨2, 0, ⟨#[]⟩, 0, fun _ => false, 0⟩) (n + 1) ⟨3, 0, ⟨#[]⟩, nk, K, (t : Int)⟩)) 0 ∧ Below w13.heap.size w13 w') := RI2.out (updF (updF A n ⟨2, 0, ⟨#[]⟩, 0, fun _ => false, 0⟩) (n + 1) ⟨3, 0, ⟨#[]⟩, nk, K, (t : Int)⟩) g2' c2' w13 SZ13.out AC13.out (HE.out.below B13.out)
  generalize runD dz (updF (updF A n ⟨2, 0, ⟨#[]⟩, 0, fun _ => false, 0⟩) (n + 1) ⟨3, 0, ⟨#[]⟩, nk, K, (t : Int)⟩) (n + 2) = k at *
  generalize runC dz (updF (updF A n ⟨2, 0, ⟨#[]⟩, 0, fun _ => false, 0⟩) (n + 1) ⟨3, 0, ⟨#[]⟩, nk, K, (t : Int)⟩) = CK2 at *
  have X13 : Hid (Box3 w13 qd 28 (.slice x0 d.nb e0) (.slice x1 d.nc e1) (.slice x2 d.ns e2)) := X8.out.below bl13
  have D13 : Hid (DiskV w13 d x0 x1 x2) := D8.out.below bl13
  clear hk hs1 hs2 hs3 hs4 hxx hyy bl12 L12 hb11 hb10 hbo hr2 hg1 bl9 bl13 B10 B9 X8 D8 hAK AC13 SZ13 HRE HROK RI2 HS FO hgk hgl hnk
  go_wp2_with (at_builtin; refine Lib.wpList_append_run _ rfl (.tmp 80) (.tmp 87) _ _ rfl _ _ rfl rfl _ _ HR2.out ?_)
  clear HR1 HR2
  refine RZ.out.mono ?_
  rintro e v14 ⟨⟨s0, s1, s2, f0, f1, f2, j0, j1, j2, jv2, rfl, rd, -⟩, hb14⟩
  have L15 : Below v14.heap.size v14 (v14.alloc (.cells #[.slice s0 k.nb f0, .slice s1 k.nc f1, .slice s2 k.ns f2] 28)) := (Below.refl _ _).alloc (Nat.le_refl _) _
  have hb15 := hb14.trans (L15.mono hb14.size)
  have B15 : Hid (Below w.heap.size w (v14.alloc (.cells #[.slice s0 k.nb f0, .slice s1 k.nc f1, .slice s2 k.ns f2] 28))) := B13.out.trans (hb15.mono B13.out.size)
  have X15 : Hid (Box3 (v14.alloc (.cells #[.slice s0 k.nb f0, .slice s1 k.nc f1, .slice s2 k.ns f2] 28)) qd 28 (.slice x0 d.nb e0) (.slice x1 d.nc e1) (.slice x2 d.ns e2)) := X13.out.below hb15
  have D15 : Hid (DiskV (v14.alloc (.cells #[.slice s0 k.nb f0, .slice s1 k.nc f1, .slice s2 k.ns f2] 28)) d x0 x1 x2) := D13.out.below hb15
  have Y15 : Hid (Box3 (v14.alloc (.cells #[.slice s0 k.nb f0, .slice s1 k.nc f1, .slice s2 k.ns f2] 28)) v14.heap.size 28 (.slice s0 k.nb f0) (.slice s1 k.nc f1) (.slice s2 k.ns f2)) := Box3.made _ _ _ _ _
  have F15 : Hid (DiskV (v14.alloc (.cells #[.slice s0 k.nb f0, .slice s1 k.nc f1, .slice s2 k.ns f2] 28)) k s0 s1 s2) := rd.diskV.below L15
  clear rd hb14 hb15 L15 X13 D13 B13 RZ
  have x30 := X15.out.c0
  have x31 := X15.out.c1
  have x32 := X15.out.c2
  have y30 := Y15.out.c0
  have y31 := Y15.out.c1
  have y32 := Y15.out.c2
  go_wp2_with fail
  generalize (v14.alloc (.cells #[.slice s0 k.nb f0, .slice s1 k.nc f1, .slice s2 k.ns f2] 28)) = v15 at *
  generalize v14.heap.size = qx at *
  clear x30 x31 x32 y30 y31 y32
  refine (implSame_ok d k x0 x1 x2 s0 s1 s2 e0 e1 e2 f0 f1 f2 true ⟨fun _ => KSM.out, fun _ => rfl⟩ HOK.out.small KOK.out.small HOK.out KOK.out p0 p1 v15 D15.out F15.out (HE.out.below B15.out).e0 (HE.out.below B15.out).e1).mono ?_
  rintro e v16 ⟨rfl, hb16⟩
  have B16 : Hid (Below w.heap.size w v16) := B15.out.trans (hb16.mono B15.out.size)
  go_wp2_with fail
  refine (AT.out 1 4 _ (by omega) (by omega) (by omega) (R1.out.below B16.out)).mono ?_
  rintro e v17 ⟨⟨j, hj, rfl⟩, hb17⟩
  have hbb := hb16.trans (hb17.mono hb16.size)
  have B17 : Hid (Below w.heap.size w v17) := B16.out.trans (hb17.mono B16.out.size)
  have X17 : Hid (Box3 v17 qd 28 (.slice x0 d.nb e0) (.slice x1 d.nc e1) (.slice x2 d.ns e2)) := X15.out.below hbb
  have Y17 : Hid (Box3 v17 qx 28 (.slice s0 k.nb f0) (.slice s1 k.nc f1) (.slice s2 k.ns f2)) := Y15.out.below hbb
  have D17 : Hid (DiskV v17 d x0 x1 x2) := D15.out.below hbb
  have fW : d.fault ⟨1, (j : Int), ⟨#[119, 114, 105, 116, 116, 101, 110]⟩, 0, fun _ => false, 0⟩ = 0 := by
    have := HNB.out
    have := HNC.out
    unfold Dk.fault
    rw [if_pos rfl, if_pos (by show 0 ≤ (j : Int) ∧ (j : Int) < (d.nb : Int); omega), if_neg (by show ¬ 200 < (ByteArray.mk #[119, 114, 105, 116, 116, 101, 110]).size; decide), if_neg (by omega)]
  have dW : d.done ⟨1, (j : Int), ⟨#[119, 114, 105, 116, 116, 101, 110]⟩, 0, fun _ => false, 0⟩ = d.written (j : Int) ⟨#[119, 114, 105, 116, 116, 101, 110]⟩ := by
    unfold Dk.done
    rw [if_pos fW]
    unfold Dk.acted
    rw [if_pos rfl]
  have WOK : Hid ((d.written (j : Int) ⟨#[119, 114, 105, 116, 116, 101, 110]⟩).Ok) := by
    have q := Dk.done_ok HOK.out ⟨1, (j : Int), ⟨#[119, 114, 105, 116, 116, 101, 110]⟩, 0, fun _ => false, 0⟩
    rw [dW] at q
    exact q
  have ST : Hid (Calls Tryd.prog 16 #[.agg #[.slice x0 d.nb e0, .slice x1 d.nc e1, .slice x2 d.ns e2], .agg #[.int .i64 1, .int .i64 (j : Int), .string ⟨#[119, 114, 105, 116, 116, 101, 110]⟩, .slice none 0 0, .int .i64 0]] v17 fun e w' => RetD v17.heap.size w' e (d.written (j : Int) ⟨#[119, 114, 105, 116, 116, 101, 110]⟩) 0 ∧ Below v17.heap.size v17 w') := by
    have q := implStep_ok d ⟨1, (j : Int), ⟨#[119, 114, 105, 116, 116, 101, 110]⟩, 0, fun _ => false, 0⟩ x0 x1 x2 none e0 e1 e2 0 ZZ.out.1 ZZ.out.2.1 ZZ.out.2.2 HOK.out.small HOK.out (by show 0 ≤ 1048576; omega) p0 p1 p2 p3 p4 v17 D17.out (fun i hi => absurd hi (Nat.not_lt_zero i)) (HE.out.below B17.out)
    rw [dW, fW] at q
    exact q
  have HRDX : Hid ((d.written (j : Int) ⟨#[119, 114, 105, 116, 116, 101, 110]⟩).rd j = ⟨#[119, 114, 105, 116, 116, 101, 110]⟩) := rd_written d j ⟨#[119, 114, 105, 116, 116, 101, 110]⟩
  have WNB : Hid ((d.written (j : Int) ⟨#[119, 114, 105, 116, 116, 101, 110]⟩).nb = 4) := HNB.out
  clear hb16 hb17 hbb B15 B16 X15 Y15 D15 F15 fW dW
  have x30 := X17.out.c0
  have x31 := X17.out.c1
  have x32 := X17.out.c2
  go_wp2_with fail
  refine ST.out.mono ?_
  rintro e v18 ⟨⟨t0, t1, t2, h0', h1', h2', i0, i1, i2, rfl, rd, -⟩, hb18⟩
  generalize d.written (j : Int) ⟨#[119, 114, 105, 116, 116, 101, 110]⟩ = dw at *
  have L19 : Below v18.heap.size v18 (v18.alloc (.cells #[.slice t0 dw.nb h0', .slice t1 dw.nc h1', .slice t2 dw.ns h2'] 28)) := (Below.refl _ _).alloc (Nat.le_refl _) _
  have hb19 := hb18.trans (L19.mono hb18.size)
  have B19 : Hid (Below w.heap.size w (v18.alloc (.cells #[.slice t0 dw.nb h0', .slice t1 dw.nc h1', .slice t2 dw.ns h2'] 28))) := B17.out.trans (hb19.mono B17.out.size)
  have Y19 : Hid (Box3 (v18.alloc (.cells #[.slice t0 dw.nb h0', .slice t1 dw.nc h1', .slice t2 dw.ns h2'] 28)) qx 28 (.slice s0 k.nb f0) (.slice s1 k.nc f1) (.slice s2 k.ns f2)) := Y17.out.below hb19
  have T19 : Hid (Box3 (v18.alloc (.cells #[.slice t0 dw.nb h0', .slice t1 dw.nc h1', .slice t2 dw.ns h2'] 28)) v18.heap.size 28 (.slice t0 dw.nb h0') (.slice t1 dw.nc h1') (.slice t2 dw.ns h2')) := Box3.made _ _ _ _ _
  have D19 : Hid (DiskV (v18.alloc (.cells #[.slice t0 dw.nb h0', .slice t1 dw.nc h1', .slice t2 dw.ns h2'] 28)) dw t0 t1 t2) := rd.diskV.below L19
  clear rd hb18 hb19 L19 ST X17 Y17 D17 B17 x30 x31 x32
  have x30 := T19.out.c0
  have x31 := T19.out.c1
  have x32 := T19.out.c2
  go_wp2_with fail
  generalize (v18.alloc (.cells #[.slice t0 dw.nb h0', .slice t1 dw.nc h1', .slice t2 dw.ns h2'] 28)) = v19 at *
  generalize v18.heap.size = qt at *
  refine (implRead_ok dw t0 t1 t2 h0' h1' h2' (j : Int) ⟨#[119, 114, 105, 116, 116, 101, 110]⟩ 0 WOK.out.small WOK.out (.inl ⟨by omega, by have := WNB.out; omega, by rw [Int.toNat_natCast]; exact HRDX.out.symm, rfl⟩) p0 p1 p2 p3 p4 v19 D19.out (HE.out.below B19.out)).mono ?_
  rintro e v20 ⟨rfl, hb20⟩
  have B20 : Hid (Below w.heap.size w v20) := B19.out.trans (hb20.mono B19.out.size)
  have Y20 := Y19.out.below hb20
  have y31 := Y20.c1
  rw [KNC.out] at y31
  clear hb20 B19 Y19 T19 D19 Y20 x30 x31 x32
  go_wp2
  go_ret
  exact ⟨rfl, B20.out⟩
end Go.Proofs.YtkhglllicblbbaaDoor
