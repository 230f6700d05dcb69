/-
  Texts of the proof, joined: SvcS.
-/
import Derived.Test.YtedncfcmhaaobaaY11
namespace Go.Proofs.Ytedncfcmhaaobaa
open Go.ChangeShapes Go.WideShapes Go.ChangeAt Go.RowKit
set_option linter.unusedVariables false
set_option maxRecDepth 100000 in
theorem appRp (w : World) (B : Nat) (v : Value) (n q : Nat) (R : Nat → Rp) (V : Nat → Value) (x : Rp) (y : Value) (hy : y.oneCell' = true) (hB : B ≤ w.heap.size) (hn : n ≤ 100000) (h : EO w B 43 8 v n (rpF R V)) (hx : ∀ j, j < 8 → w.cell? ⟨q, 0 + j, none⟩ = some (rpV x y j)) :
  ∃ v' w', (∀ ty, (Builtin.append_ #[24, 24] ty #[v, .slice (some ⟨q, 0, none⟩) 1 1]).run Try.prog w = .ok v' w') ∧ EO w' B 43 8 v' (n + 1) (rpF (updE R n x) (updE V n y)) ∧ w.grownBy w' v.ownBlock ∧ (v'.ownBlock = v.ownBlock ∨ v'.ownBlock = some w.heap.size) := by
 obtain ⟨i, hi, hz, hsz, hby⟩ := info_parts Try.infoRp
 obtain ⟨v', w', hr, ho, hg, _, hloc⟩ := run_append_own_at (P := Try.prog) w B 24 24 43 i _ 8 80 Try.underlying24 hi hz hsz hby rfl (by decide) v n _ h ⟨q, 0, none⟩ 1 1 ((List.range 8).map (rpV x y)) (by simp) (fun j u hj => by
  rw [Go.WideShapes.add_plain]
  rw [List.getElem?_map, Option.map_eq_some_iff] at hj
  obtain ⟨b, hb, rfl⟩ := hj
  obtain ⟨hj', rfl⟩ := List.getElem?_eq_some_iff.1 hb
  rw [List.getElem_range]
  exact hx j (by simpa using hj')) (fun u hu => by
   obtain ⟨j, hj, rfl⟩ := List.mem_map.1 hu
   have := List.mem_range.1 hj
   rcases (show j = 0 ∨ j = 1 ∨ j = 2 ∨ j = 3 ∨ j = 4 ∨ j = 5 ∨ j = 6 ∨ j = 7 by omega) with rfl | rfl | rfl | rfl | rfl | rfl | rfl | rfl
   all_goals first | rfl | exact hy) (by unfold maxLen; omega) (by omega) hB
 refine ⟨v', w', fun ty => hr, ?_, hg, hloc⟩
 unfold EO
 rw [elv_snoc, elv_congr (G := rpF R V) (fun i hi j hj => by unfold rpF updE; rw [if_neg (by omega), if_neg (by omega)])]
 have e : (List.range 8).map (rpF (updE R n x) (updE V n y) n) = (List.range 8).map (rpV x y) := by unfold rpF updE; simp
 rw [e]
 exact ho
theorem EO.notIs {w : World} {B : Nat} {e : TypeId} {s : Nat} {v : Value} {n : Nat} {F : Nat → Nat → Value} (h : EO w B e s v n F) {p m : Nat} {t : TypeId} {f : Nat → Value} (hp : w.rowIs p t m f) (ht : t ≠ e) : v.ownBlock ≠ some p := fun hg => by
 obtain ⟨hl, ⟨h1, _⟩ | ⟨g', cap, cur, hv, _, hh, _⟩⟩ := h
 ·rw [h1] at hg; cases hg
 ·rw [hv] at hg
  have q2 : g' = p := Option.some.inj hg
  obtain ⟨c, hc, _⟩ := hp
  rw [q2, hc] at hh
  cases hh
  exact ht rfl
set_option maxRecDepth 100000 in
set_option maxHeartbeats 2000000 in
theorem l09New_any (n : Nat) (h : 1 ≤ n ∧ n ≤ 7) (w : World) : Calls Try.prog 84 #[.int .i64 (n : Int)] w fun e w' => (∃ (g : Nat) (c : Nat) (V : Nat → Value) (vw vr : Value), e = .returned (.agg #[.slice (some ⟨g, 0, none⟩) n c, .int .i64 0, vw, vr]) ∧ w.heap.size ≤ g ∧ g < w'.heap.size ∧ RowE w' 8 (some ⟨g, 0, none⟩) g n (rpF (fun _ => rpZ) V) ∧ (∀ i, i < n → ∃ a, V i = .slice a 0 0) ∧ (∃ a, vw = .slice a 0 0) ∧ (∃ a, vr = .slice a 0 0)) ∧ Below w.heap.size w w' := by
 have A1 : Hid (Below w.heap.size w ((((w.alloc (.cells #[.slice none 0 0, .int .i64 0, .slice none 0 0, .slice none 0 0] 28)).alloc (.cells #[] 37)).alloc (.cells #[] 90)).alloc (.cells #[.slice none 0 0, .int .i64 0, .slice (some ⟨w.heap.size + 1, 0, none⟩) 0 0, .slice (some ⟨w.heap.size + 2, 0, none⟩) 0 0] 28))) := ((((Below.refl _ _).alloc (Nat.le_refl _) _).alloc (by simp) _).alloc (by simp; omega) _).alloc (by simp; omega) _
 have X : Hid (Box4 ((((w.alloc (.cells #[.slice none 0 0, .int .i64 0, .slice none 0 0, .slice none 0 0] 28)).alloc (.cells #[] 37)).alloc (.cells #[] 90)).alloc (.cells #[.slice none 0 0, .int .i64 0, .slice (some ⟨w.heap.size + 1, 0, none⟩) 0 0, .slice (some ⟨w.heap.size + 2, 0, none⟩) 0 0] 28)) w.heap.size 28 (.slice none 0 0) (.int .i64 0) (.slice none 0 0) (.slice none 0 0)) := (((Box4.madeAt rfl _ _ _ _ _).alloc _).alloc _).alloc _
 have Y : Hid (Box4 ((((w.alloc (.cells #[.slice none 0 0, .int .i64 0, .slice none 0 0, .slice none 0 0] 28)).alloc (.cells #[] 37)).alloc (.cells #[] 90)).alloc (.cells #[.slice none 0 0, .int .i64 0, .slice (some ⟨w.heap.size + 1, 0, none⟩) 0 0, .slice (some ⟨w.heap.size + 2, 0, none⟩) 0 0] 28)) (w.heap.size + 3) 28 (.slice none 0 0) (.int .i64 0) (.slice (some ⟨w.heap.size + 1, 0, none⟩) 0 0) (.slice (some ⟨w.heap.size + 2, 0, none⟩) 0 0)) := Box4.madeAt (by simp) _ _ _ _ _
 go_enter Try.func84, Try.ntmps84
 go_wp2_with fail
 generalize ((((w.alloc (.cells #[.slice none 0 0, .int .i64 0, .slice none 0 0, .slice none 0 0] 28)).alloc (.cells #[] 37)).alloc (.cells #[] 90)).alloc (.cells #[.slice none 0 0, .int .i64 0, .slice (some ⟨w.heap.size + 1, 0, none⟩) 0 0, .slice (some ⟨w.heap.size + 2, 0, none⟩) 0 0] 28)) = v at *
 go_loopw [4] (fun iv wr => ∃ (k : Nat) (vr : Value) (V : Nat → Value), k ≤ n ∧ iv = .int .i64 (k : Int) ∧ Box4 wr (w.heap.size + 3) 28 (vr) (.int .i64 0) (.slice (some ⟨w.heap.size + 1, 0, none⟩) 0 0) (.slice (some ⟨w.heap.size + 2, 0, none⟩) 0 0) ∧ EO wr w.heap.size 43 8 vr k (rpF (fun _ => rpZ) V) ∧ (∀ i, i < k → ∃ a, V i = .slice a 0 0) ∧ Box4 wr w.heap.size 28 (.slice none 0 0) (.int .i64 0) (.slice none 0 0) (.slice none 0 0) ∧ Below w.heap.size w wr) (fun iv _ => n - (intOf iv).toNat)
 case atStart => exact ⟨0, _, fun _ => .slice none 0 0, by omega, rfl, Y.out, EO.nil _ _ _ _ _, fun i hi => absurd hi (by omega), X.out, A1.out⟩
 case round =>
  clear X Y A1
  obtain ⟨k, vr, V, hk, rfl, hy, he, hv, hx, hb⟩ := hrel
  obtain ⟨ac, cc, rfl⟩ := he.form
  by_cases hlt : k < n
  ·have hlt' : (k : Int) < (n : Int) := by omega
   have hbA : Below wr.heap.size wr ((wr.alloc (.cells #[] 3)).alloc (.cells #[.bool false, .int .i64 0, .int .i64 0, .int .i64 0, .int .i64 0, .slice (some ⟨wr.heap.size, 0, none⟩) 0 0, .int .i64 0, .int .i64 0] 43)) := ((Below.refl _ _).alloc (Nat.le_refl _) _).alloc (by simp) _
   have hq : ∀ j, j < 8 → ((wr.alloc (.cells #[] 3)).alloc (.cells #[.bool false, .int .i64 0, .int .i64 0, .int .i64 0, .int .i64 0, .slice (some ⟨wr.heap.size, 0, none⟩) 0 0, .int .i64 0, .int .i64 0] 43)).cell? ⟨wr.heap.size + 1, 0 + j, none⟩ = some (rpV rpZ (.slice (some ⟨wr.heap.size, 0, none⟩) 0 0) j) := fun j hj => by
    rw [Nat.zero_add, World.cell?_alloc_at (w := wr.alloc (.cells #[] 3)) _ _ (wr.heap.size + 1) j (by simp)]
    rcases (show j = 0 ∨ j = 1 ∨ j = 2 ∨ j = 3 ∨ j = 4 ∨ j = 5 ∨ j = 6 ∨ j = 7 by omega) with rfl | rfl | rfl | rfl | rfl | rfl | rfl | rfl <;> rfl
   obtain ⟨v', u, hrun, ho, hgr, hloc⟩ := appRp ((wr.alloc (.cells #[] 3)).alloc (.cells #[.bool false, .int .i64 0, .int .i64 0, .int .i64 0, .int .i64 0, .slice (some ⟨wr.heap.size, 0, none⟩) 0 0, .int .i64 0, .int .i64 0] 43)) w.heap.size (.slice ac k cc) k (wr.heap.size + 1) (fun _ => rpZ) V rpZ (.slice (some ⟨wr.heap.size, 0, none⟩) 0 0) rfl (Nat.le_trans hb.size hbA.size) (by omega) (he.below hbA) hq
   obtain ⟨ax, cx, rfl⟩ := ho.form
   have kp : ∀ {p : Nat} {x y z t : Value}, Box4 wr p 28 x y z t → Box4 u p 28 x y z t := fun hp => (hp.below hbA).ofBlock (hgr.block _ (hp.below hbA).lt (fun e => (he.below hbA).notIs (hp.below hbA) (by decide) e.symm))
   have y3 := kp hy
   have x3 := kp hx
   have a3 : Below w.heap.size w u := (hb.trans (hbA.mono hb.size)).grown hgr (Nat.le_trans hb.size hbA.size) (fun p e => (he.ge p e).1)
   have lne : w.heap.size ≠ w.heap.size + 3 := by omega
   have Y4 : Hid (Box4 (u.setCell ⟨w.heap.size + 1 + 1 + 1, 0, none⟩ (.slice ax (k + 1) cx)) (w.heap.size + 3) 28 (.slice ax (k + 1) cx) (.int .i64 0) (.slice (some ⟨w.heap.size + 1, 0, none⟩) 0 0) (.slice (some ⟨w.heap.size + 2, 0, none⟩) 0 0)) := y3.set0 _
   have X4 : Hid (Box4 (u.setCell ⟨w.heap.size + 1 + 1 + 1, 0, none⟩ (.slice ax (k + 1) cx)) w.heap.size 28 (.slice none 0 0) (.int .i64 0) (.slice none 0 0) (.slice none 0 0)) := x3.other (a := ⟨w.heap.size + 1 + 1 + 1, 0, none⟩) lne _
   have E4 : Hid (EO (u.setCell ⟨w.heap.size + 1 + 1 + 1, 0, none⟩ (.slice ax (k + 1) cx)) w.heap.size 43 8 (.slice ax (k + 1) cx) (k + 1) (rpF (fun _ => rpZ) (updE V k (.slice (some ⟨wr.heap.size, 0, none⟩) 0 0)))) := (ho.congr (fun i hi j hj => by unfold rpF updE; by_cases e : i = k <;> simp [e])).keep (fun g e => heap_setCell_other _ _ _ _ (fun q => ho.notIs y3 (by decide) (by rw [e, q])))
   have A4 : Hid (Below w.heap.size w (u.setCell ⟨w.heap.size + 1 + 1 + 1, 0, none⟩ (.slice ax (k + 1) cx))) := a3.setCell (by show w.heap.size ≤ w.heap.size + 3; omega) _
   have V4 : Hid (∀ i, i < k + 1 → ∃ a, updE V k (.slice (some ⟨wr.heap.size, 0, none⟩) 0 0) i = .slice a 0 0) := fun i hi => by
    unfold updE
    by_cases e : i = k
    ·rw [if_pos e]; exact ⟨_, rfl⟩
    ·rw [if_neg e]; exact hv i (by omega)
   have y0 := hy.c0
   have u0 := y3.c0
   have f0 := y3.fr 0
   clear kp y3 x3 a3 ho hgr hloc hq hbA hy he hv hx hb
   go_wp2_with (at_builtin; refine Lib.wpList_append_run _ rfl (.tmp 14) (.tmp 17) 24 24 rfl (.slice ac k cc) (.slice (some ⟨wr.heap.size + 1, 0, none⟩) 1 1) rfl rfl _ _ (hrun _) ?_)
   go_roundw
   case rel => exact ⟨k + 1, _, _, by omega, by go_num, Y4.out, E4.out, V4.out, X4.out, A4.out⟩
   case measure => simp [intOf]; omega
  ·obtain rfl : k = n := by omega
   have hlt' : ¬ (k : Int) < (k : Int) := by omega
   obtain ⟨g, r, -⟩ := he.rowE
   obtain rfl := r.a (by omega)
   have hge := he.ge g rfl
   have c0 := hy.c0
   have c1 := hy.c1
   have c2 := hy.c2
   have c3 := hy.c3
   have x0 := hx.c0
   have x1 := hx.c1
   have x2 := hx.c2
   have x3 := hx.c3
   have f0 := hx.fr 0
   have f1 := hx.fr 1
   have f2 := hx.fr 2
   have f3 := hx.fr 3
   have hne : g ≠ w.heap.size := fun q => he.notIs hx (by decide) (by rw [q]; rfl)
   have O5 : OnlyB w.heap.size wr ((((wr.setCell ⟨w.heap.size, 0, none⟩ (.slice (some ⟨g, 0, none⟩) k cc)).setCell ⟨w.heap.size, 1, none⟩ (.int .i64 0)).setCell ⟨w.heap.size, 2, none⟩ (.slice (some ⟨w.heap.size + 1, 0, none⟩) 0 0)).setCell ⟨w.heap.size, 3, none⟩ (.slice (some ⟨w.heap.size + 2, 0, none⟩) 0 0)) := ((((OnlyB.refl _ wr).setCell 0 _).setCell 1 _).setCell 2 _).setCell 3 _
   have X5 : Hid (Box4 ((((wr.setCell ⟨w.heap.size, 0, none⟩ (.slice (some ⟨g, 0, none⟩) k cc)).setCell ⟨w.heap.size, 1, none⟩ (.int .i64 0)).setCell ⟨w.heap.size, 2, none⟩ (.slice (some ⟨w.heap.size + 1, 0, none⟩) 0 0)).setCell ⟨w.heap.size, 3, none⟩ (.slice (some ⟨w.heap.size + 2, 0, none⟩) 0 0)) w.heap.size 28 (.slice (some ⟨g, 0, none⟩) k cc) (.int .i64 0) (.slice (some ⟨w.heap.size + 1, 0, none⟩) 0 0) (.slice (some ⟨w.heap.size + 2, 0, none⟩) 0 0)) := (((hx.set0 _).set1 _).set2 _).set3 _
   have R5 : Hid (RowE ((((wr.setCell ⟨w.heap.size, 0, none⟩ (.slice (some ⟨g, 0, none⟩) k cc)).setCell ⟨w.heap.size, 1, none⟩ (.int .i64 0)).setCell ⟨w.heap.size, 2, none⟩ (.slice (some ⟨w.heap.size + 1, 0, none⟩) 0 0)).setCell ⟨w.heap.size, 3, none⟩ (.slice (some ⟨w.heap.size + 2, 0, none⟩) 0 0)) 8 (some ⟨g, 0, none⟩) g k (rpF (fun _ => rpZ) V)) := r.onlyB (by omega) O5 (fun _ => hne)
   have L5 : Hid (w.heap.size ≤ g ∧ g < ((((wr.setCell ⟨w.heap.size, 0, none⟩ (.slice (some ⟨g, 0, none⟩) k cc)).setCell ⟨w.heap.size, 1, none⟩ (.int .i64 0)).setCell ⟨w.heap.size, 2, none⟩ (.slice (some ⟨w.heap.size + 1, 0, none⟩) 0 0)).setCell ⟨w.heap.size, 3, none⟩ (.slice (some ⟨w.heap.size + 2, 0, none⟩) 0 0)).heap.size) := ⟨hge.1, by simp; exact hge.2⟩
   have A5 : Hid (Below w.heap.size w ((((wr.setCell ⟨w.heap.size, 0, none⟩ (.slice (some ⟨g, 0, none⟩) k cc)).setCell ⟨w.heap.size, 1, none⟩ (.int .i64 0)).setCell ⟨w.heap.size, 2, none⟩ (.slice (some ⟨w.heap.size + 1, 0, none⟩) 0 0)).setCell ⟨w.heap.size, 3, none⟩ (.slice (some ⟨w.heap.size + 2, 0, none⟩) 0 0))) := hb.trans (O5.toBelow (by omega) hb.size)
   have HV : Hid (∀ i, i < k → ∃ a, V i = .slice a 0 0) := hv
   clear O5 r hge hne hy he hv hx hb
   go_wp2
   exact ret_cell (b := w.heap.size) Try.results84 rfl (Box4.loadsv X5.out) ⟨⟨_, _, _, _, _, rfl, L5.out.1, L5.out.2, R5.out, HV.out, ⟨_, rfl⟩, ⟨_, rfl⟩⟩, A5.out⟩
set_option maxRecDepth 100000 in
theorem specNs_no (n : Int) (h : ¬ (1 ≤ n ∧ n ≤ 7)) (w : World) : Calls Try.prog 49 #[.int .i64 n] w fun e w' => e = .returned (.tuple #[.agg #[.slice none 0 0, .int .i64 0, .slice none 0 0, .slice none 0 0], .int .i64 4]) ∧ Below w.heap.size w w' := by
 have I : Hid (∀ w, Calls Try.prog 71 #[.int .i64 n, .int .i64 1, .int .i64 7] w fun e w' => e = .returned (.bool false) ∧ w = w') := in_any n 1 7 false (by simp [h])
 have X : Hid (Box4 (w.alloc (.cells #[.slice none 0 0, .int .i64 0, .slice none 0 0, .slice none 0 0] 28)) w.heap.size 28 (.slice none 0 0) (.int .i64 0) (.slice none 0 0) (.slice none 0 0)) := Box4.madeAt rfl _ _ _ _ _
 have A1 : Hid (Below w.heap.size w (w.alloc (.cells #[.slice none 0 0, .int .i64 0, .slice none 0 0, .slice none 0 0] 28))) := (Below.refl _ _).alloc (Nat.le_refl _) _
 clear h
 go_enter Try.func49, Try.ntmps49
 go_wp2_with fail
 refine (I.out _).mono ?_
 rintro e w' ⟨rfl, rfl⟩
 go_wp2
 exact ret_cell2 (b := w.heap.size) Try.results49 rfl rfl (Box4.loadsv X.out) ⟨rfl, A1.out⟩
set_option maxRecDepth 100000 in
theorem specNs_yes (n : Nat) (h : 1 ≤ n ∧ n ≤ 7) (w : World) : Calls Try.prog 49 #[.int .i64 (n : Int)] w fun e w' => RetNs n w.heap.size e w' ∧ Below w.heap.size w w' := by
 have I : Hid (∀ w, Calls Try.prog 71 #[.int .i64 (n : Int), .int .i64 1, .int .i64 7] w fun e w' => e = .returned (.bool true) ∧ w = w') := in_any n 1 7 true (by simp; omega)
 have NW := l09New_any n h
 have X : Hid (Box4 (w.alloc (.cells #[.slice none 0 0, .int .i64 0, .slice none 0 0, .slice none 0 0] 28)) w.heap.size 28 (.slice none 0 0) (.int .i64 0) (.slice none 0 0) (.slice none 0 0)) := Box4.madeAt rfl _ _ _ _ _
 have A1 : Hid (Below w.heap.size w (w.alloc (.cells #[.slice none 0 0, .int .i64 0, .slice none 0 0, .slice none 0 0] 28))) := (Below.refl _ _).alloc (Nat.le_refl _) _
 have NV : Hid (∀ w, Calls Try.prog 84 #[.int .i64 (n : Int)] w fun e w' => (∃ (g : Nat) (c : Nat) (V : Nat → Value) (vw vr : Value), e = .returned (.agg #[.slice (some ⟨g, 0, none⟩) n c, .int .i64 0, vw, vr]) ∧ w.heap.size ≤ g ∧ g < w'.heap.size ∧ RowE w' 8 (some ⟨g, 0, none⟩) g n (rpF (fun _ => rpZ) V) ∧ (∀ i, i < n → ∃ a, V i = .slice a 0 0) ∧ (∃ a, vw = .slice a 0 0) ∧ (∃ a, vr = .slice a 0 0)) ∧ Below w.heap.size w w') := NW
 clear h NW
 go_enter Try.func49, Try.ntmps49
 go_wp2_with fail
 refine (I.out _).mono ?_
 rintro e w' ⟨rfl, rfl⟩
 go_wp2_with fail
 generalize (w.alloc (.cells #[.slice none 0 0, .int .i64 0, .slice none 0 0, .slice none 0 0] 28)) = v at *
 refine (NV.out _).mono ?_
 rintro e u ⟨⟨g, c, V, vw, vr, rfl, hg, hgl, hr, hv, ⟨ew, rfl⟩, ⟨er, rfl⟩⟩, hb⟩
 have x := X.out.below hb
 have lx := X.out.lt
 have x0 := x.c0
 have x1 := x.c1
 have x2 := x.c2
 have x3 := x.c3
 have f0 := x.fr 0
 have f1 := x.fr 1
 have f2 := x.fr 2
 have f3 := x.fr 3
 have O5 : OnlyB w.heap.size u ((((u.setCell ⟨w.heap.size, 0, none⟩ (.slice (some ⟨g, 0, none⟩) n c)).setCell ⟨w.heap.size, 1, none⟩ (.int .i64 0)).setCell ⟨w.heap.size, 2, none⟩ (.slice ew 0 0)).setCell ⟨w.heap.size, 3, none⟩ (.slice er 0 0)) := ((((OnlyB.refl _ u).setCell 0 _).setCell 1 _).setCell 2 _).setCell 3 _
 have X5 : Hid (Box4 ((((u.setCell ⟨w.heap.size, 0, none⟩ (.slice (some ⟨g, 0, none⟩) n c)).setCell ⟨w.heap.size, 1, none⟩ (.int .i64 0)).setCell ⟨w.heap.size, 2, none⟩ (.slice ew 0 0)).setCell ⟨w.heap.size, 3, none⟩ (.slice er 0 0)) w.heap.size 28 (.slice (some ⟨g, 0, none⟩) n c) (.int .i64 0) (.slice ew 0 0) (.slice er 0 0)) := (((x.set0 _).set1 _).set2 _).set3 _
 have R5 : Hid (RowE ((((u.setCell ⟨w.heap.size, 0, none⟩ (.slice (some ⟨g, 0, none⟩) n c)).setCell ⟨w.heap.size, 1, none⟩ (.int .i64 0)).setCell ⟨w.heap.size, 2, none⟩ (.slice ew 0 0)).setCell ⟨w.heap.size, 3, none⟩ (.slice er 0 0)) 8 (some ⟨g, 0, none⟩) g n (rpF (fun _ => rpZ) V)) := hr.onlyB (by omega) O5 (fun _ => by omega)
 have L5 : Hid (w.heap.size ≤ g ∧ g < ((((u.setCell ⟨w.heap.size, 0, none⟩ (.slice (some ⟨g, 0, none⟩) n c)).setCell ⟨w.heap.size, 1, none⟩ (.int .i64 0)).setCell ⟨w.heap.size, 2, none⟩ (.slice ew 0 0)).setCell ⟨w.heap.size, 3, none⟩ (.slice er 0 0)).heap.size) := ⟨by omega, by simp; exact hgl⟩
 have A5 : Hid (Below w.heap.size w ((((u.setCell ⟨w.heap.size, 0, none⟩ (.slice (some ⟨g, 0, none⟩) n c)).setCell ⟨w.heap.size, 1, none⟩ (.int .i64 0)).setCell ⟨w.heap.size, 2, none⟩ (.slice ew 0 0)).setCell ⟨w.heap.size, 3, none⟩ (.slice er 0 0))) := (A1.out.trans (hb.mono A1.out.size)).trans (O5.toBelow (by omega) (Nat.le_trans A1.out.size hb.size))
 have HV : Hid (∀ i, i < n → ∃ a, V i = .slice a 0 0) := hv
 clear O5 hr hg hgl hv x hb lx X A1 NV I
 go_wp2
 exact ret_cell2 (b := w.heap.size) Try.results49 rfl rfl (Box4.loadsv X5.out) ⟨⟨_, _, _, _, _, rfl, L5.out.1, L5.out.2, R5.out, HV.out, ⟨_, rfl⟩, ⟨_, rfl⟩⟩, A5.out⟩
end Go.Proofs.Ytedncfcmhaaobaa
