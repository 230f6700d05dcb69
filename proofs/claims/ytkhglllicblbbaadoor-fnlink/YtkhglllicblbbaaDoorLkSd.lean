/-
  Links that send: LinkSend of the program and of the model.
-/
import Derived.Test.YtkhglllicblbbaaDoorLawPTag
import Derived.Test.YtkhglllicblbbaaDoorLkOk
import Derived.Test.YtkhglllicblbbaaDoorNewL
import Derived.Test.YtkhglllicblbbaaDoorAnyH
namespace Go.Proofs.YtkhglllicblbbaaDoor
open Go.ChangeShapes Go.WideShapes Go.ChangeAt Go.RowKit
set_option linter.unusedVariables false
/-- Block b is a variable of three cells. -/
def BoxP (w : World) (b : Nat) (t : TypeId) (x y z : Value) : Prop := w.rowIs b t 3 (fun i => if i = 0 then x else if i = 1 then y else z)
theorem BoxP.c0 {w : World} {b : Nat} {t : TypeId} {x y z : Value} (h : BoxP w b t x y z) : w.cell? ⟨b, 0, none⟩ = some x := World.rowIs.cell h (i := 0) (by omega)
theorem BoxP.c1 {w : World} {b : Nat} {t : TypeId} {x y z : Value} (h : BoxP w b t x y z) : w.cell? ⟨b, 1, none⟩ = some y := World.rowIs.cell h (i := 1) (by omega)
theorem BoxP.c2 {w : World} {b : Nat} {t : TypeId} {x y z : Value} (h : BoxP w b t x y z) : w.cell? ⟨b, 2, none⟩ = some z := World.rowIs.cell h (i := 2) (by omega)
theorem BoxP.fr {w : World} {b : Nat} {t : TypeId} {x y z : Value} (h : BoxP w b t x y z) (i : Nat) : w.frozen? ⟨b, i, none⟩ = false := World.rowIs.frozen h i
theorem BoxP.lt {w : World} {b : Nat} {t : TypeId} {x y z : Value} (h : BoxP w b t x y z) : b < w.heap.size := World.rowIs.lt h
theorem BoxP.ofBlock {w w' : World} {b : Nat} {t : TypeId} {x y z : Value} (h : BoxP w b t x y z) (e : w'.heap[b]? = w.heap[b]?) : BoxP w' b t x y z := World.rowIs.of_block h e
theorem BoxP.below {w w' : World} {b : Nat} {t : TypeId} {x y z : Value} (h : BoxP w b t x y z) (hb : Below w.heap.size w w') : BoxP w' b t x y z := h.ofBlock (hb.block b h.lt)
theorem BoxP.onlyB {w w' : World} {b g : Nat} {t : TypeId} {x y z : Value} (h : BoxP w b t x y z) (ho : OnlyB g w w') (hne : b ≠ g) : BoxP w' b t x y z := h.ofBlock (ho.block b h.lt hne)
theorem BoxP.madeAt {w : World} {b : Nat} (hb : w.heap.size = b) (t : TypeId) (x y z : Value) : BoxP (w.alloc (.cells #[x, y, z] t)) b t x y z := by
  subst hb
  exact World.rowIs_alloc w #[x, y, z] t _ (fun i hi => by
    rcases (show i = 0 ∨ i = 1 ∨ i = 2 by simp at hi; omega) with rfl | rfl | rfl <;> rfl)
theorem BoxP.alloc {w : World} {b : Nat} {t : TypeId} {x y z : Value} (h : BoxP w b t x y z) (o : Obj) : BoxP (w.alloc o) b t x y z := World.rowIs.alloc h o
theorem BoxP.set0 {w : World} {b : Nat} {t : TypeId} {x y z : Value} (h : BoxP w b t x y z) (v : Value) : BoxP (w.setCell ⟨b, 0, none⟩ v) b t v y z := World.rowIs.congr (World.rowIs.set h 0 v) (fun i hi => by
  rcases (show i = 0 ∨ i = 1 ∨ i = 2 by omega) with rfl | rfl | rfl <;> rfl)
theorem BoxP.set1 {w : World} {b : Nat} {t : TypeId} {x y z : Value} (h : BoxP w b t x y z) (v : Value) : BoxP (w.setCell ⟨b, 1, none⟩ v) b t x v z := World.rowIs.congr (World.rowIs.set h 1 v) (fun i hi => by
  rcases (show i = 0 ∨ i = 1 ∨ i = 2 by omega) with rfl | rfl | rfl <;> rfl)
theorem BoxP.set2 {w : World} {b : Nat} {t : TypeId} {x y z : Value} (h : BoxP w b t x y z) (v : Value) : BoxP (w.setCell ⟨b, 2, none⟩ v) b t x y v := World.rowIs.congr (World.rowIs.set h 2 v) (fun i hi => by
  rcases (show i = 0 ∨ i = 1 ∨ i = 2 by omega) with rfl | rfl | rfl <;> rfl)
theorem ret_cell3 {P : Program} {fn : Func} {p q u : Tmp} {ty ty2 : TypeId} {tmps : Array Value} {w : World} {b b2 : Nat} {v v2 x : Value} {Post : Ending → World → Prop} (h : fn.results = #[.cell p ty, .cell q ty2, .tmp u]) (hp : tmps.getD p undef = .pointer (some ⟨b, 0, none⟩)) (hq2 : tmps.getD q undef = .pointer (some ⟨b2, 0, none⟩)) (hu : tmps.getD u undef = x) (hl : (loadVar ty ⟨b, 0, none⟩).run P w = .ok v w) (hl2 : (loadVar ty2 ⟨b2, 0, none⟩).run P w = .ok v2 w) (hq : Post (.returned (.tuple #[v, v2, x])) w) : bodyPost P fn Post .ret { tmps := tmps, defers := [] } w := by
  refine bodyPost_ret (v := .tuple #[v, v2, x]) ?_ rfl hq
  simp only [Array.getD_eq_getD_getElem?] at hp hq2 hu
  unfold results
  rw [h]
  simp [hp, hq2, hu, asAddr, hl, hl2, Result.andThen]
/-- n flags as the cells of a list. -/
def bvB (n : Nat) (f : Nat → Bool) : List Value := (List.range n).map fun i => .bool (f i)
theorem bvB_length (n : Nat) (f : Nat → Bool) : (bvB n f).length = n := by simp [bvB]
theorem bvB_at {n : Nat} {f : Nat → Bool} {i : Nat} (hi : i < n) : (bvB n f)[i]? = some (.bool (f i)) := by simp [bvB, hi]
theorem bvB_news {w : World} {b o n : Nat} {f : Nat → Bool} (h : Bools w (some ⟨b, o, none⟩) n f) : ∀ j u, (bvB n f)[j]? = some u → w.cell? ((⟨b, o, none⟩ : Addr).add j) = some u := fun j u hj => by
  have hj' : j < n := by
    rcases Nat.lt_or_ge j n with g | g
    · exact g
    · rw [List.getElem?_eq_none (by rw [bvB_length]; exact g)] at hj; cases hj
  rw [bvB_at hj'] at hj
  obtain ⟨b', o', e, hc⟩ := h j hj'
  cases e
  rw [Addr.add_lit, hc]
  exact hj
theorem bvB_one (n : Nat) (f : Nat → Bool) : ∀ u ∈ bvB n f, u.oneCell' = true := fun u hu => by
  obtain ⟨i, _, rfl⟩ := List.mem_map.1 hu
  rfl
theorem ownB_of_own {w : World} {base : Nat} {v : Value} {n : Nat} {f : Nat → Bool} (h : w.ownsRow base 4 1 v n (bvB n f)) (hn : 0 < n) :
    ∃ b cap, v = .slice (some ⟨b, 0, none⟩) n cap ∧ OwnB w base (some ⟨b, 0, none⟩) n f := by
  obtain ⟨hl, ⟨rfl, rfl⟩ | ⟨g, cap, cur, rfl, hb, hh, hn', hm, hs, ht⟩⟩ := h
  · omega
  · refine ⟨g, cap, rfl, .inr ⟨g, cap, fun i => cur.getD i undef, hb, rfl, ⟨cur, hh, by omega, fun i hi => by
      have : i < cur.size := by omega
      simp [Array.getD, this]⟩, hn', fun i hi => ?_⟩⟩
    have e1 : (cur.toList.take (n * 1))[i]? = some (.bool (f i)) := by rw [ht]; exact bvB_at hi
    rw [Nat.mul_one, List.getElem?_take, if_pos hi, Array.getElem?_toList] at e1
    have : i < cur.size := by omega
    rw [Array.getElem?_eq_getElem this] at e1
    simp only [Array.getD, this, dif_pos]
    exact Option.some.inj e1
theorem OwnB.one {w w' : World} {B n b : Nat} {a : Option Addr} {f : Nat → Bool} (h : OwnB w B a n f) (ho : OnlyB b w w') (hd : ∀ p, a = some p → p.block ≠ b) : OwnB w' B a n f := by
  rcases h with h | ⟨g, k, G, hB, ha, hr, hm, hG⟩
  · exact .inl h
  · exact .inr ⟨g, k, G, hB, ha, hr.of_block (ho.block g hr.lt (hd _ ha)), hm, hG⟩
theorem OwnB.ofB {w w1 w2 : World} {B n b b2 : Nat} {a : Option Addr} {f : Nat → Bool} (h : OwnB w B a n f) (ho : OnlyB b w w1) (hd : ∀ p, a = some p → p.block ≠ b) (ho2 : OnlyB b2 w1 w2) (hd2 : ∀ p, a = some p → p.block ≠ b2) : OwnB w2 B a n f := (h.one ho hd).one ho2 hd2
theorem info_partsB : ∃ i0, Tryd.prog.info? 4 = some i0 ∧ i0.zero = some (.bool false) ∧ i0.size = 1 ∧ i0.bytes = 1 := by
  obtain ⟨i, hi, hzz⟩ := Option.map_eq_some_iff.1 Tryd.infoBool
  simp only [Prod.mk.injEq] at hzz
  exact ⟨i, hi, hzz.1, hzz.2.1, hzz.2.2⟩
set_option maxRecDepth 100000 in
set_option maxHeartbeats 1000000 in
/-- slices.Clone of 32 flags. -/
theorem cloneB_any (a : Option Addr) (c : Nat) (f : Nat → Bool) (w : World) (h : Bools w a 32 f) :
    Calls Tryd.prog 66 #[.slice a 32 c] w fun e w' => (∃ g cap, e = .returned (.slice (some ⟨g, 0, none⟩) 32 cap) ∧ OwnB w' w.heap.size (some ⟨g, 0, none⟩) 32 f) ∧ Below w.heap.size w w' := by
  obtain ⟨b, off, rfl, hc⟩ := h.opened (by omega)
  obtain ⟨i0, hi⟩ := info_partsB
  have HI : Hid (Tryd.prog.info? 4 = some i0 ∧ i0.zero = some (.bool false) ∧ i0.size = 1 ∧ i0.bytes = 1) := hi
  have HC : Hid (Bools w (some ⟨b, off, none⟩) 32 f) := h
  have q : ∀ (w : World) (a : Option Addr) (n c n' c' : Nat), (binOp .eql 36 (.slice a n c) (.slice none n' c')).run Tryd.prog w = .ok (.bool a.isNone) w := fun w a n c n' c' => Lib.run_eql_slice_nil w _ _ a n c n' c' Tryd.underlying36
  clear h hi hc
  go_enter Tryd.func66, Tryd.ntmps66
  go_wp2_with (at_builtin; refine wpList_append_own _ rfl _ _ 36 rfl w.heap.size 4 i0 (.bool false) 1 1 Tryd.underlying36 HI.out.1 HI.out.2.1 HI.out.2.2.1 HI.out.2.2.2 rfl (by decide) _ _ _ rfl (World.ownsRow_made w #[] 0 (Nat.le_refl _) (Nat.zero_le _) (by simp)) ⟨b, off, none⟩ 32 c (bvB 32 f) rfl (by rw [bvB_length, Nat.mul_one]) ?qc2 (bvB_one 32 f) (by unfold maxLen; omega) (by omega) (by simp) ?_)
  case qc2 =>
    intro j u hj
    exact Lib.cell?_alloc_some _ (bvB_news HC.out j u hj)
  intro v' w1 hown hgrow hnil
  have hown' : w1.ownsRow w.heap.size 4 1 v' 32 (bvB 32 f) := by simpa using hown
  obtain ⟨b', c', rfl, ho⟩ := ownB_of_own hown' (by omega)
  have HB : Hid (Below w.heap.size w w1) := ((Below.refl _ w).alloc (Nat.le_refl _) _).grown hgrow (by simp) (by intro k hk; simp [Value.ownBlock] at hk; omega)
  have HO : Hid (OwnB w1 w.heap.size (some ⟨b', 0, none⟩) 32 f) := ho
  clear hown hgrow hnil hown' ho
  go_wp2
  go_ret
  exact ⟨⟨b', c', rfl, HO.out⟩, HB.out⟩
set_option maxRecDepth 100000 in
set_option maxHeartbeats 2000000 in
theorem l07Own_any (K : ByteArray) (se tp : Int) (a : Option Addr) (c : Nat) (f : Nat → Bool) (w : World) (h : Bools w a 32 f) :
    Calls Tryd.prog 73 #[.agg #[.string K, .int .i64 se, .int .i64 tp, .slice a 32 c]] w fun e w' => (∃ g cap, e = .returned (.agg #[.string K, .int .i64 se, .int .i64 tp, .slice (some ⟨g, 0, none⟩) 32 cap]) ∧ OwnB w' w.heap.size (some ⟨g, 0, none⟩) 32 f) ∧ Below w.heap.size w w' := by
  obtain ⟨b, off, rfl, hc⟩ := h.opened (by omega)
  obtain ⟨i0, hi⟩ := info_partsB
  have HI : Hid (Tryd.prog.info? 4 = some i0 ∧ i0.zero = some (.bool false) ∧ i0.size = 1 ∧ i0.bytes = 1) := hi
  obtain ⟨u, hu⟩ : ∃ u, u = ((w.alloc (.cells #[.string K, .int .i64 se, .int .i64 tp, .slice (some ⟨b, off, none⟩) 32 c] 52)).alloc (.cells #[.string ⟨#[]⟩, .int .i64 0, .int .i64 0, .slice none 0 0] 52)) := ⟨_, rfl⟩
  have A1 : Below w.heap.size w u := by rw [hu]; exact ((Below.refl w.heap.size w).alloc (Nat.le_refl _) _).alloc (by simp) _
  have X0 : Hid (Box4 u w.heap.size 52 (.string K) (.int .i64 se) (.int .i64 tp) (.slice (some ⟨b, off, none⟩) 32 c)) := by rw [hu]; exact (Box4.madeAt rfl _ _ _ _ _).alloc _
  have Y0 : Hid (Box4 u (w.heap.size + 1) 52 (.string ⟨#[]⟩) (.int .i64 0) (.int .i64 0) (.slice none 0 0)) := by rw [hu]; exact Box4.madeAt (by simp) _ _ _ _ _
  have HC : Hid (Bools u (some ⟨b, off, none⟩) 32 f) := h.below A1
  have AA : Hid (Below w.heap.size w u) := A1
  have US : Hid (u.heap.size = w.heap.size + 2) := by show _ = _; rw [hu]; simp
  have HU : Hid (u = _) := hu
  clear h hi hc A1 hu
  go_enter Tryd.func73, Tryd.ntmps73
  go_upto_region 1 with fail
  rw [← HU.out]
  clear HU
  have t3 := X0.out.c3
  have t3' : (u.alloc (.cells #[] 4)).cell? ⟨w.heap.size, 3, none⟩ = some (.slice (some ⟨b, off, none⟩) 32 c) := Lib.cell?_alloc_some _ t3
  go_wp2_with (at_builtin; refine wpList_append_own _ rfl _ _ 36 rfl u.heap.size 4 i0 (.bool false) 1 1 Tryd.underlying36 HI.out.1 HI.out.2.1 HI.out.2.2.1 HI.out.2.2.2 rfl (by decide) _ _ _ rfl (World.ownsRow_made u #[] 0 (Nat.le_refl _) (Nat.zero_le _) (by simp)) ⟨b, off, none⟩ 32 c (bvB 32 f) rfl (by rw [bvB_length, Nat.mul_one]) ?qc2 (bvB_one 32 f) (by unfold maxLen; omega) (by omega) (by simp) ?_)
  case qc2 =>
    intro j u hj
    exact Lib.cell?_alloc_some _ (bvB_news HC.out j u hj)
  clear t3 t3'
  intro v' w1 hown hgrow hnil
  have hown' : w1.ownsRow u.heap.size 4 1 v' 32 (bvB 32 f) := by simpa using hown
  obtain ⟨g', c', rfl, ho⟩ := ownB_of_own hown' (by omega)
  have hb : Below u.heap.size u w1 := ((Below.refl _ u).alloc (Nat.le_refl _) _).grown hgrow (by simp) (by intro k hk; simp [Value.ownBlock] at hk; omega)
  have HG : u.heap.size ≤ g' := ho.ge (by omega) _ rfl
  have X1 := X0.out.below hb
  have Y1 := Y0.out.below hb
  have m0 := X1.c0
  have m1 := X1.c1
  have m2 := X1.c2
  have m3 := X1.c3
  have p3 := X1.fr 3
  have n0 := Y1.c0
  have n1 := Y1.c1
  have n2 := Y1.c2
  have n3 := Y1.c3
  have f0 := Y1.fr 0
  have f1 := Y1.fr 1
  have f2 := Y1.fr 2
  have f3 := Y1.fr 3
  have us := US.out
  obtain ⟨U1, hU1⟩ : ∃ U1, U1 = w1.setCell ⟨w.heap.size, 3, none⟩ (.slice (some ⟨g', 0, none⟩) 32 c') := ⟨_, rfl⟩
  obtain ⟨U5, hU5⟩ : ∃ U5, U5 = (((U1.setCell ⟨w.heap.size + 1, 0, none⟩ (.string K)).setCell ⟨w.heap.size + 1, 1, none⟩ (.int .i64 se)).setCell ⟨w.heap.size + 1, 2, none⟩ (.int .i64 tp)).setCell ⟨w.heap.size + 1, 3, none⟩ (.slice (some ⟨g', 0, none⟩) 32 c') := ⟨_, rfl⟩
  have O1 : OnlyB w.heap.size w1 U1 := by rw [hU1]; exact (OnlyB.refl _ w1).setCell 3 _
  have O2 : OnlyB (w.heap.size + 1) U1 U5 := by rw [hU5]; exact ((((OnlyB.refl _ _).setCell 0 _).setCell 1 _).setCell 2 _).setCell 3 _
  have Y5 : Hid (Box4 U5 (w.heap.size + 1) 52 (.string K) (.int .i64 se) (.int .i64 tp) (.slice (some ⟨g', 0, none⟩) 32 c')) := by rw [hU5]; exact ((((Y1.ofBlock (O1.block _ Y1.lt (by omega))).set0 _).set1 _).set2 _).set3 _
  have R5 : Hid (OwnB U5 w.heap.size (some ⟨g', 0, none⟩) 32 f) := (ho.ofB O1 (fun p hp => by cases hp; show g' ≠ _; omega) O2 (fun p hp => by cases hp; show g' ≠ _; omega)).mono (by omega)
  have B5 : Hid (Below w.heap.size w U5) := by
    have q0 := AA.out.trans (hb.mono AA.out.size)
    have q1 := q0.trans (O1.toBelow (B := w.heap.size) (Nat.le_refl _) q0.size)
    exact q1.trans (O2.toBelow (B := w.heap.size) (by omega) q1.size)
  have HU : Hid (U5 = ((((w1.setCell ⟨w.heap.size, 3, none⟩ (.slice (some ⟨g', 0, none⟩) 32 c')).setCell ⟨w.heap.size + 1, 0, none⟩ (.string K)).setCell ⟨w.heap.size + 1, 1, none⟩ (.int .i64 se)).setCell ⟨w.heap.size + 1, 2, none⟩ (.int .i64 tp)).setCell ⟨w.heap.size + 1, 3, none⟩ (.slice (some ⟨g', 0, none⟩) 32 c')) := by rw [hU5, hU1]; exact rfl
  clear O1 O2 X1 Y1 hb X0 Y0 AA hU1 hU5 hown hgrow hnil hown' ho HG us US HC HI
  go_wp2
  rw [← HU.out]
  clear HU m0 m1 m2 m3 p3 n0 n1 n2 n3 f0 f1 f2 f3
  have y0 := Y5.out.c0
  have y1 := Y5.out.c1
  have y2 := Y5.out.c2
  have y3 := Y5.out.c3
  exact ret_cell (b := w.heap.size + 1) (v := .agg #[.string K, .int .i64 se, .int .i64 tp, .slice (some ⟨g', 0, none⟩) 32 c']) Tryd.results73 rfl (by go_simp) ⟨⟨g', c', rfl, R5.out⟩, B5.out⟩
end Go.Proofs.YtkhglllicblbbaaDoor
