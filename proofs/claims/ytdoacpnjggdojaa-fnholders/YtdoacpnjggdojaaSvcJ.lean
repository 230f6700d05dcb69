/-
  A service copied.
-/
import Derived.Test.YtdoacpnjggdojaaSvcI
namespace Go.Proofs.Ytdoacpnjggdojaa
open Go.ChangeShapes Go.WideShapes Go.ChangeAt Go.RowKit
set_option linter.unusedVariables false
/-- Rows of the call's own, from block B on. -/
def RpO (w : World) (B g n : Nat) (R : Nat → Rp) (V : Nat → Nat) : Prop := (B ≤ g ∧ g < w.heap.size) ∧ RowE w 8 (some ⟨g, 0, none⟩) g n (rpF R (fun j => .slice (some ⟨V j, 0, none⟩) (R j).ne (R j).ne)) ∧ ∀ j, j < n → g < V j ∧ w.rowIs (V j) 3 (R j).ne (fun i => .int .i64 ((R j).E i))
theorem RpO.keep {w w' : World} {B g n : Nat} {R : Nat → Rp} {V : Nat → Nat} (h : RpO w B g n R V) (hs : w.heap.size ≤ w'.heap.size) (hb : ∀ k, B ≤ k → k < w.heap.size → w'.heap[k]? = w.heap[k]?) : RpO w' B g n R V :=
  ⟨⟨h.1.1, Nat.lt_of_lt_of_le h.1.2 hs⟩, RowE.ofBlock h.2.1 (fun _ => hb g h.1.1 h.1.2), fun j hj => ⟨(h.2.2 j hj).1, World.rowIs.of_block (h.2.2 j hj).2 (hb _ (by have := h.1.1; have := (h.2.2 j hj).1; omega) (World.rowIs.lt (h.2.2 j hj).2))⟩⟩
theorem RpO.below {w w' : World} {B g n : Nat} {R : Nat → Rp} {V : Nat → Nat} (h : RpO w B g n R V) (hb : Below w.heap.size w w') : RpO w' B g n R V := h.keep hb.size (fun k _ hk => hb.block k hk)
theorem RpO.v {w : World} {B g n : Nat} {R : Nat → Rp} {V : Nat → Nat} (h : RpO w B g n R V) : RpV w (some ⟨g, 0, none⟩) n R (fun j => some ⟨V j, 0, none⟩) (fun j => (R j).ne) :=
  ⟨h.2.1.els, fun j hj i hi => ⟨V j, 0, rfl, fun q hq => by
    obtain rfl : q = 0 := by omega
    have := World.rowIs.cell (h.2.2 j hj).2 (i := i) hi
    simpa [inF] using this⟩⟩
/-- Rows of the call's own, from block B on. -/
def WoO (w : World) (B g n : Nat) (R : Nat → Wo) (V : Nat → Nat) : Prop := (B ≤ g ∧ g < w.heap.size) ∧ RowE w 5 (some ⟨g, 0, none⟩) g n (woF R (fun j => .slice (some ⟨V j, 0, none⟩) (R j).ne (R j).ne)) ∧ ∀ j, j < n → g < V j ∧ w.rowIs (V j) 3 (R j).ne (fun i => .int .i64 ((R j).E i))
theorem WoO.keep {w w' : World} {B g n : Nat} {R : Nat → Wo} {V : Nat → Nat} (h : WoO w B g n R V) (hs : w.heap.size ≤ w'.heap.size) (hb : ∀ k, B ≤ k → k < w.heap.size → w'.heap[k]? = w.heap[k]?) : WoO w' B g n R V :=
  ⟨⟨h.1.1, Nat.lt_of_lt_of_le h.1.2 hs⟩, RowE.ofBlock h.2.1 (fun _ => hb g h.1.1 h.1.2), fun j hj => ⟨(h.2.2 j hj).1, World.rowIs.of_block (h.2.2 j hj).2 (hb _ (by have := h.1.1; have := (h.2.2 j hj).1; omega) (World.rowIs.lt (h.2.2 j hj).2))⟩⟩
theorem WoO.below {w w' : World} {B g n : Nat} {R : Nat → Wo} {V : Nat → Nat} (h : WoO w B g n R V) (hb : Below w.heap.size w w') : WoO w' B g n R V := h.keep hb.size (fun k _ hk => hb.block k hk)
theorem WoO.v {w : World} {B g n : Nat} {R : Nat → Wo} {V : Nat → Nat} (h : WoO w B g n R V) : WoV w (some ⟨g, 0, none⟩) n R (fun j => some ⟨V j, 0, none⟩) (fun j => (R j).ne) :=
  ⟨h.2.1.els, fun j hj i hi => ⟨V j, 0, rfl, fun q hq => by
    obtain rfl : q = 0 := by omega
    have := World.rowIs.cell (h.2.2 j hj).2 (i := i) hi
    simpa [inF] using this⟩⟩
/-- Rows of the call's own, from block B on. -/
def RoO (w : World) (B g n : Nat) (R : Nat → Ro) (V : Nat → Nat) : Prop := (B ≤ g ∧ g < w.heap.size) ∧ RowE w 5 (some ⟨g, 0, none⟩) g n (roF R (fun j => .slice (some ⟨V j, 0, none⟩) (R j).ne (R j).ne)) ∧ ∀ j, j < n → g < V j ∧ w.rowIs (V j) 3 (R j).ne (fun i => .int .i64 ((R j).E i))
theorem RoO.keep {w w' : World} {B g n : Nat} {R : Nat → Ro} {V : Nat → Nat} (h : RoO w B g n R V) (hs : w.heap.size ≤ w'.heap.size) (hb : ∀ k, B ≤ k → k < w.heap.size → w'.heap[k]? = w.heap[k]?) : RoO w' B g n R V :=
  ⟨⟨h.1.1, Nat.lt_of_lt_of_le h.1.2 hs⟩, RowE.ofBlock h.2.1 (fun _ => hb g h.1.1 h.1.2), fun j hj => ⟨(h.2.2 j hj).1, World.rowIs.of_block (h.2.2 j hj).2 (hb _ (by have := h.1.1; have := (h.2.2 j hj).1; omega) (World.rowIs.lt (h.2.2 j hj).2))⟩⟩
theorem RoO.below {w w' : World} {B g n : Nat} {R : Nat → Ro} {V : Nat → Nat} (h : RoO w B g n R V) (hb : Below w.heap.size w w') : RoO w' B g n R V := h.keep hb.size (fun k _ hk => hb.block k hk)
theorem RoO.v {w : World} {B g n : Nat} {R : Nat → Ro} {V : Nat → Nat} (h : RoO w B g n R V) : RoV w (some ⟨g, 0, none⟩) n R (fun j => some ⟨V j, 0, none⟩) (fun j => (R j).ne) :=
  ⟨h.2.1.els, fun j hj i hi => ⟨V j, 0, rfl, fun q hq => by
    obtain rfl : q = 0 := by omega
    have := World.rowIs.cell (h.2.2 j hj).2 (i := i) hi
    simpa [inF] using this⟩⟩
set_option maxRecDepth 100000 in
set_option maxHeartbeats 4000000 in
theorem toService_any (s : Sv) (p : Sa) (hm : s.max 1048576) (w : World) (h : SvV w s p) :
    Calls Try.prog 22 #[.agg #[.slice p.a s.n p.ca, .int .i64 s.t, .slice p.b s.m p.cb, .slice p.d s.l p.cd]] w fun e w' => (∃ (ga gb gd : Nat) (VA VB VD : Nat → Nat), e = .returned (.agg #[.slice (some ⟨ga, 0, none⟩) s.n s.n, .int .i64 s.t, .slice (some ⟨gb, 0, none⟩) s.m s.m, .slice (some ⟨gd, 0, none⟩) s.l s.l]) ∧ RpO w' w.heap.size ga s.n s.R VA ∧ WoO w' w.heap.size gb s.m s.W VB ∧ RoO w' w.heap.size gd s.l s.Q VD) ∧ Below w.heap.size w w' := by
  have T0 : Hid (∀ w : World, SvV w s p → Calls Try.prog 58 #[.slice p.a s.n p.ca] w fun e w' => (∃ V : Nat → Nat, e = .returned (.slice (some ⟨w.heap.size, 0, none⟩) s.n s.n) ∧ RpO w' w.heap.size w.heap.size s.n s.R V) ∧ Below w.heap.size w w') := fun w h => (toReplicaS_any p.a s.n p.ca s.R p.A p.X hm.1.1 hm.1.2 w h.1).mono fun e w' q => ⟨by obtain ⟨V, q1, q2, q3, q4⟩ := q.1; exact ⟨V, q1, ⟨Nat.le_refl _, q4⟩, q2, q3⟩, q.2⟩
  have T1 : Hid (∀ w : World, SvV w s p → Calls Try.prog 59 #[.slice p.b s.m p.cb] w fun e w' => (∃ V : Nat → Nat, e = .returned (.slice (some ⟨w.heap.size, 0, none⟩) s.m s.m) ∧ WoO w' w.heap.size w.heap.size s.m s.W V) ∧ Below w.heap.size w w') := fun w h => (toWriteOpS_any p.b s.m p.cb s.W p.B p.Y hm.2.1.1 hm.2.1.2 w h.2.1).mono fun e w' q => ⟨by obtain ⟨V, q1, q2, q3, q4⟩ := q.1; exact ⟨V, q1, ⟨Nat.le_refl _, q4⟩, q2, q3⟩, q.2⟩
  have T2 : Hid (∀ w : World, SvV w s p → Calls Try.prog 60 #[.slice p.d s.l p.cd] w fun e w' => (∃ V : Nat → Nat, e = .returned (.slice (some ⟨w.heap.size, 0, none⟩) s.l s.l) ∧ RoO w' w.heap.size w.heap.size s.l s.Q V) ∧ Below w.heap.size w w') := fun w h => (toReadOpS_any p.d s.l p.cd s.Q p.D p.Z hm.2.2.1 hm.2.2.2 w h.2.2).mono fun e w' q => ⟨by obtain ⟨V, q1, q2, q3, q4⟩ := q.1; exact ⟨V, q1, ⟨Nat.le_refl _, q4⟩, q2, q3⟩, q.2⟩
  have HA : Hid (SvV w s p) := h
  have A1 : Hid (Below w.heap.size w (((w.alloc (.cells #[.slice p.a s.n p.ca, .int .i64 s.t, .slice p.b s.m p.cb, .slice p.d s.l p.cd] 59)).alloc (.cells #[.slice none 0 0, .int .i64 0, .slice none 0 0, .slice none 0 0] 30)).alloc (.cells #[.slice none 0 0, .int .i64 0, .slice none 0 0, .slice none 0 0] 30))) := (((Below.refl w.heap.size w).alloc (Nat.le_refl _) _).alloc (by simp) _).alloc (by simp; omega) _
  have SZ : Hid (w.heap.size + 3 ≤ ((((w.alloc (.cells #[.slice p.a s.n p.ca, .int .i64 s.t, .slice p.b s.m p.cb, .slice p.d s.l p.cd] 59)).alloc (.cells #[.slice none 0 0, .int .i64 0, .slice none 0 0, .slice none 0 0] 30)).alloc (.cells #[.slice none 0 0, .int .i64 0, .slice none 0 0, .slice none 0 0] 30))).heap.size) := by show w.heap.size + 3 ≤ _; simp
  have X : Hid (Box4 (((w.alloc (.cells #[.slice p.a s.n p.ca, .int .i64 s.t, .slice p.b s.m p.cb, .slice p.d s.l p.cd] 59)).alloc (.cells #[.slice none 0 0, .int .i64 0, .slice none 0 0, .slice none 0 0] 30)).alloc (.cells #[.slice none 0 0, .int .i64 0, .slice none 0 0, .slice none 0 0] 30)) w.heap.size 59 (.slice p.a s.n p.ca) (.int .i64 s.t) (.slice p.b s.m p.cb) (.slice p.d s.l p.cd)) := ((Box4.madeAt rfl _ _ _ _ _).alloc _).alloc _
  have Y : Hid (Box4 (((w.alloc (.cells #[.slice p.a s.n p.ca, .int .i64 s.t, .slice p.b s.m p.cb, .slice p.d s.l p.cd] 59)).alloc (.cells #[.slice none 0 0, .int .i64 0, .slice none 0 0, .slice none 0 0] 30)).alloc (.cells #[.slice none 0 0, .int .i64 0, .slice none 0 0, .slice none 0 0] 30)) (w.heap.size + 1) 30 (.slice none 0 0) (.int .i64 0) (.slice none 0 0) (.slice none 0 0)) := (Box4.madeAt (by simp) _ _ _ _ _).alloc _
  have Z : Hid (Box4 (((w.alloc (.cells #[.slice p.a s.n p.ca, .int .i64 s.t, .slice p.b s.m p.cb, .slice p.d s.l p.cd] 59)).alloc (.cells #[.slice none 0 0, .int .i64 0, .slice none 0 0, .slice none 0 0] 30)).alloc (.cells #[.slice none 0 0, .int .i64 0, .slice none 0 0, .slice none 0 0] 30)) (w.heap.size + 2) 30 (.slice none 0 0) (.int .i64 0) (.slice none 0 0) (.slice none 0 0)) := Box4.madeAt (by simp) _ _ _ _ _
  clear h hm
  go_enter Try.func22, Try.ntmps22
  go_wp2_with fail
  generalize (((w.alloc (.cells #[.slice p.a s.n p.ca, .int .i64 s.t, .slice p.b s.m p.cb, .slice p.d s.l p.cd] 59)).alloc (.cells #[.slice none 0 0, .int .i64 0, .slice none 0 0, .slice none 0 0] 30)).alloc (.cells #[.slice none 0 0, .int .i64 0, .slice none 0 0, .slice none 0 0] 30)) = u0 at *
  obtain ⟨ga, hga⟩ : ∃ g, g = u0.heap.size := ⟨_, rfl⟩
  have G0 : Hid (w.heap.size + 3 ≤ ga) := by rw [hga]; exact SZ.out
  refine (T0.out _ (HA.out.below A1.out)).mono ?_
  rintro e v1 ⟨⟨VA, rfl, ho⟩, hb⟩
  rw [← hga] at ho ⊢
  have N0 : Hid (RpO v1 (w.heap.size + 3) ga s.n s.R VA) := ⟨⟨G0.out, ho.1.2⟩, ho.2⟩
  clear ho hga
  replace A1 : Hid (Below w.heap.size w v1) := A1.out.trans (hb.mono A1.out.size)
  replace SZ : Hid (w.heap.size + 3 ≤ v1.heap.size) := Nat.le_trans SZ.out hb.size
  replace X : Hid (Box4 v1 w.heap.size 59 (.slice p.a s.n p.ca) (.int .i64 s.t) (.slice p.b s.m p.cb) (.slice p.d s.l p.cd)) := X.out.below hb
  replace Y : Hid (Box4 v1 (w.heap.size + 1) 30 (.slice none 0 0) (.int .i64 0) (.slice none 0 0) (.slice none 0 0)) := Y.out.below hb
  replace Z : Hid (Box4 v1 (w.heap.size + 2) 30 (.slice none 0 0) (.int .i64 0) (.slice none 0 0) (.slice none 0 0)) := Z.out.below hb
  clear hb
  have x0 := X.out.c0
  have z0 := Z.out.c0
  have zf0 := Z.out.fr 0
  have x1 := X.out.c1
  have z1 := Z.out.c1
  have zf1 := Z.out.fr 1
  have x2 := X.out.c2
  have z2 := Z.out.c2
  have zf2 := Z.out.fr 2
  have x3 := X.out.c3
  have z3 := Z.out.c3
  have zf3 := Z.out.fr 3
  have O1 : OnlyB (w.heap.size + 2) v1 ((v1.setCell ⟨w.heap.size + 2, 0, none⟩ (.slice (some ⟨ga, 0, none⟩) s.n s.n)).setCell ⟨w.heap.size + 2, 1, none⟩ (.int .i64 s.t)) := (((OnlyB.refl (w.heap.size + 2) v1).setCell 0 _).setCell 1 _)
  replace Z : Hid (Box4 ((v1.setCell ⟨w.heap.size + 2, 0, none⟩ (.slice (some ⟨ga, 0, none⟩) s.n s.n)).setCell ⟨w.heap.size + 2, 1, none⟩ (.int .i64 s.t)) (w.heap.size + 2) 30 (.slice (some ⟨ga, 0, none⟩) s.n s.n) (.int .i64 s.t) (.slice none 0 0) (.slice none 0 0)) := ((Z.out.set0 _).set1 _)
  replace X : Hid (Box4 ((v1.setCell ⟨w.heap.size + 2, 0, none⟩ (.slice (some ⟨ga, 0, none⟩) s.n s.n)).setCell ⟨w.heap.size + 2, 1, none⟩ (.int .i64 s.t)) w.heap.size 59 (.slice p.a s.n p.ca) (.int .i64 s.t) (.slice p.b s.m p.cb) (.slice p.d s.l p.cd)) := X.out.ofBlock (O1.block _ X.out.lt (by omega))
  replace A1 : Hid (Below w.heap.size w ((v1.setCell ⟨w.heap.size + 2, 0, none⟩ (.slice (some ⟨ga, 0, none⟩) s.n s.n)).setCell ⟨w.heap.size + 2, 1, none⟩ (.int .i64 s.t))) := A1.out.trans (O1.toBelow (by omega) A1.out.size)
  replace SZ : Hid (w.heap.size + 3 ≤ ((v1.setCell ⟨w.heap.size + 2, 0, none⟩ (.slice (some ⟨ga, 0, none⟩) s.n s.n)).setCell ⟨w.heap.size + 2, 1, none⟩ (.int .i64 s.t)).heap.size) := Nat.le_trans SZ.out O1.size
  replace N0 : Hid (RpO ((v1.setCell ⟨w.heap.size + 2, 0, none⟩ (.slice (some ⟨ga, 0, none⟩) s.n s.n)).setCell ⟨w.heap.size + 2, 1, none⟩ (.int .i64 s.t)) (w.heap.size + 3) ga s.n s.R VA) := N0.out.keep O1.size (fun k h1 h2 => O1.block k h2 (by omega))
  replace Y : Hid (Box4 ((v1.setCell ⟨w.heap.size + 2, 0, none⟩ (.slice (some ⟨ga, 0, none⟩) s.n s.n)).setCell ⟨w.heap.size + 2, 1, none⟩ (.int .i64 s.t)) (w.heap.size + 1) 30 (.slice none 0 0) (.int .i64 0) (.slice none 0 0) (.slice none 0 0)) := Y.out.ofBlock (O1.block _ Y.out.lt (by omega))
  clear O1
  go_wp2_with fail
  generalize ((v1.setCell ⟨w.heap.size + 2, 0, none⟩ (.slice (some ⟨ga, 0, none⟩) s.n s.n)).setCell ⟨w.heap.size + 2, 1, none⟩ (.int .i64 s.t)) = u1 at *
  clear x0 z0 zf0 x1 z1 zf1 x2 z2 zf2 x3 z3 zf3
  obtain ⟨gb, hgb⟩ : ∃ g, g = u1.heap.size := ⟨_, rfl⟩
  have G1 : Hid (w.heap.size + 3 ≤ gb) := by rw [hgb]; exact SZ.out
  refine (T1.out _ (HA.out.below A1.out)).mono ?_
  rintro e v2 ⟨⟨VB, rfl, ho⟩, hb⟩
  rw [← hgb] at ho ⊢
  have N1 : Hid (WoO v2 (w.heap.size + 3) gb s.m s.W VB) := ⟨⟨G1.out, ho.1.2⟩, ho.2⟩
  clear ho hgb
  replace A1 : Hid (Below w.heap.size w v2) := A1.out.trans (hb.mono A1.out.size)
  replace SZ : Hid (w.heap.size + 3 ≤ v2.heap.size) := Nat.le_trans SZ.out hb.size
  replace X : Hid (Box4 v2 w.heap.size 59 (.slice p.a s.n p.ca) (.int .i64 s.t) (.slice p.b s.m p.cb) (.slice p.d s.l p.cd)) := X.out.below hb
  replace Y : Hid (Box4 v2 (w.heap.size + 1) 30 (.slice none 0 0) (.int .i64 0) (.slice none 0 0) (.slice none 0 0)) := Y.out.below hb
  replace Z : Hid (Box4 v2 (w.heap.size + 2) 30 (.slice (some ⟨ga, 0, none⟩) s.n s.n) (.int .i64 s.t) (.slice none 0 0) (.slice none 0 0)) := Z.out.below hb
  replace N0 : Hid (RpO v2 (w.heap.size + 3) ga s.n s.R VA) := N0.out.below hb
  clear hb
  have x0 := X.out.c0
  have z0 := Z.out.c0
  have zf0 := Z.out.fr 0
  have x1 := X.out.c1
  have z1 := Z.out.c1
  have zf1 := Z.out.fr 1
  have x2 := X.out.c2
  have z2 := Z.out.c2
  have zf2 := Z.out.fr 2
  have x3 := X.out.c3
  have z3 := Z.out.c3
  have zf3 := Z.out.fr 3
  have O1 : OnlyB (w.heap.size + 2) v2 (v2.setCell ⟨w.heap.size + 2, 2, none⟩ (.slice (some ⟨gb, 0, none⟩) s.m s.m)) := ((OnlyB.refl (w.heap.size + 2) v2).setCell 2 _)
  replace Z : Hid (Box4 (v2.setCell ⟨w.heap.size + 2, 2, none⟩ (.slice (some ⟨gb, 0, none⟩) s.m s.m)) (w.heap.size + 2) 30 (.slice (some ⟨ga, 0, none⟩) s.n s.n) (.int .i64 s.t) (.slice (some ⟨gb, 0, none⟩) s.m s.m) (.slice none 0 0)) := (Z.out.set2 _)
  replace X : Hid (Box4 (v2.setCell ⟨w.heap.size + 2, 2, none⟩ (.slice (some ⟨gb, 0, none⟩) s.m s.m)) w.heap.size 59 (.slice p.a s.n p.ca) (.int .i64 s.t) (.slice p.b s.m p.cb) (.slice p.d s.l p.cd)) := X.out.ofBlock (O1.block _ X.out.lt (by omega))
  replace A1 : Hid (Below w.heap.size w (v2.setCell ⟨w.heap.size + 2, 2, none⟩ (.slice (some ⟨gb, 0, none⟩) s.m s.m))) := A1.out.trans (O1.toBelow (by omega) A1.out.size)
  replace SZ : Hid (w.heap.size + 3 ≤ (v2.setCell ⟨w.heap.size + 2, 2, none⟩ (.slice (some ⟨gb, 0, none⟩) s.m s.m)).heap.size) := Nat.le_trans SZ.out O1.size
  replace N0 : Hid (RpO (v2.setCell ⟨w.heap.size + 2, 2, none⟩ (.slice (some ⟨gb, 0, none⟩) s.m s.m)) (w.heap.size + 3) ga s.n s.R VA) := N0.out.keep O1.size (fun k h1 h2 => O1.block k h2 (by omega))
  replace N1 : Hid (WoO (v2.setCell ⟨w.heap.size + 2, 2, none⟩ (.slice (some ⟨gb, 0, none⟩) s.m s.m)) (w.heap.size + 3) gb s.m s.W VB) := N1.out.keep O1.size (fun k h1 h2 => O1.block k h2 (by omega))
  replace Y : Hid (Box4 (v2.setCell ⟨w.heap.size + 2, 2, none⟩ (.slice (some ⟨gb, 0, none⟩) s.m s.m)) (w.heap.size + 1) 30 (.slice none 0 0) (.int .i64 0) (.slice none 0 0) (.slice none 0 0)) := Y.out.ofBlock (O1.block _ Y.out.lt (by omega))
  clear O1
  go_wp2_with fail
  generalize (v2.setCell ⟨w.heap.size + 2, 2, none⟩ (.slice (some ⟨gb, 0, none⟩) s.m s.m)) = u2 at *
  clear x0 z0 zf0 x1 z1 zf1 x2 z2 zf2 x3 z3 zf3
  obtain ⟨gd, hgd⟩ : ∃ g, g = u2.heap.size := ⟨_, rfl⟩
  have G2 : Hid (w.heap.size + 3 ≤ gd) := by rw [hgd]; exact SZ.out
  refine (T2.out _ (HA.out.below A1.out)).mono ?_
  rintro e v3 ⟨⟨VD, rfl, ho⟩, hb⟩
  rw [← hgd] at ho ⊢
  have N2 : Hid (RoO v3 (w.heap.size + 3) gd s.l s.Q VD) := ⟨⟨G2.out, ho.1.2⟩, ho.2⟩
  clear ho hgd
  replace A1 : Hid (Below w.heap.size w v3) := A1.out.trans (hb.mono A1.out.size)
  replace SZ : Hid (w.heap.size + 3 ≤ v3.heap.size) := Nat.le_trans SZ.out hb.size
  replace X : Hid (Box4 v3 w.heap.size 59 (.slice p.a s.n p.ca) (.int .i64 s.t) (.slice p.b s.m p.cb) (.slice p.d s.l p.cd)) := X.out.below hb
  replace Y : Hid (Box4 v3 (w.heap.size + 1) 30 (.slice none 0 0) (.int .i64 0) (.slice none 0 0) (.slice none 0 0)) := Y.out.below hb
  replace Z : Hid (Box4 v3 (w.heap.size + 2) 30 (.slice (some ⟨ga, 0, none⟩) s.n s.n) (.int .i64 s.t) (.slice (some ⟨gb, 0, none⟩) s.m s.m) (.slice none 0 0)) := Z.out.below hb
  replace N0 : Hid (RpO v3 (w.heap.size + 3) ga s.n s.R VA) := N0.out.below hb
  replace N1 : Hid (WoO v3 (w.heap.size + 3) gb s.m s.W VB) := N1.out.below hb
  clear hb
  have x0 := X.out.c0
  have z0 := Z.out.c0
  have zf0 := Z.out.fr 0
  have x1 := X.out.c1
  have z1 := Z.out.c1
  have zf1 := Z.out.fr 1
  have x2 := X.out.c2
  have z2 := Z.out.c2
  have zf2 := Z.out.fr 2
  have x3 := X.out.c3
  have z3 := Z.out.c3
  have zf3 := Z.out.fr 3
  have O1 : OnlyB (w.heap.size + 2) v3 (v3.setCell ⟨w.heap.size + 2, 3, none⟩ (.slice (some ⟨gd, 0, none⟩) s.l s.l)) := ((OnlyB.refl (w.heap.size + 2) v3).setCell 3 _)
  replace Z : Hid (Box4 (v3.setCell ⟨w.heap.size + 2, 3, none⟩ (.slice (some ⟨gd, 0, none⟩) s.l s.l)) (w.heap.size + 2) 30 (.slice (some ⟨ga, 0, none⟩) s.n s.n) (.int .i64 s.t) (.slice (some ⟨gb, 0, none⟩) s.m s.m) (.slice (some ⟨gd, 0, none⟩) s.l s.l)) := (Z.out.set3 _)
  replace X : Hid (Box4 (v3.setCell ⟨w.heap.size + 2, 3, none⟩ (.slice (some ⟨gd, 0, none⟩) s.l s.l)) w.heap.size 59 (.slice p.a s.n p.ca) (.int .i64 s.t) (.slice p.b s.m p.cb) (.slice p.d s.l p.cd)) := X.out.ofBlock (O1.block _ X.out.lt (by omega))
  replace A1 : Hid (Below w.heap.size w (v3.setCell ⟨w.heap.size + 2, 3, none⟩ (.slice (some ⟨gd, 0, none⟩) s.l s.l))) := A1.out.trans (O1.toBelow (by omega) A1.out.size)
  replace SZ : Hid (w.heap.size + 3 ≤ (v3.setCell ⟨w.heap.size + 2, 3, none⟩ (.slice (some ⟨gd, 0, none⟩) s.l s.l)).heap.size) := Nat.le_trans SZ.out O1.size
  replace N0 : Hid (RpO (v3.setCell ⟨w.heap.size + 2, 3, none⟩ (.slice (some ⟨gd, 0, none⟩) s.l s.l)) (w.heap.size + 3) ga s.n s.R VA) := N0.out.keep O1.size (fun k h1 h2 => O1.block k h2 (by omega))
  replace N1 : Hid (WoO (v3.setCell ⟨w.heap.size + 2, 3, none⟩ (.slice (some ⟨gd, 0, none⟩) s.l s.l)) (w.heap.size + 3) gb s.m s.W VB) := N1.out.keep O1.size (fun k h1 h2 => O1.block k h2 (by omega))
  replace N2 : Hid (RoO (v3.setCell ⟨w.heap.size + 2, 3, none⟩ (.slice (some ⟨gd, 0, none⟩) s.l s.l)) (w.heap.size + 3) gd s.l s.Q VD) := N2.out.keep O1.size (fun k h1 h2 => O1.block k h2 (by omega))
  have y0 := Y.out.c0
  have yf0 := Y.out.fr 0
  have y1 := Y.out.c1
  have yf1 := Y.out.fr 1
  have y2 := Y.out.c2
  have yf2 := Y.out.fr 2
  have y3 := Y.out.c3
  have yf3 := Y.out.fr 3
  have O2 : OnlyB (w.heap.size + 1) (v3.setCell ⟨w.heap.size + 2, 3, none⟩ (.slice (some ⟨gd, 0, none⟩) s.l s.l)) (((((v3.setCell ⟨w.heap.size + 2, 3, none⟩ (.slice (some ⟨gd, 0, none⟩) s.l s.l)).setCell ⟨w.heap.size + 1, 0, none⟩ (.slice (some ⟨ga, 0, none⟩) s.n s.n)).setCell ⟨w.heap.size + 1, 1, none⟩ (.int .i64 s.t)).setCell ⟨w.heap.size + 1, 2, none⟩ (.slice (some ⟨gb, 0, none⟩) s.m s.m)).setCell ⟨w.heap.size + 1, 3, none⟩ (.slice (some ⟨gd, 0, none⟩) s.l s.l)) := (((((OnlyB.refl (w.heap.size + 1) (v3.setCell ⟨w.heap.size + 2, 3, none⟩ (.slice (some ⟨gd, 0, none⟩) s.l s.l))).setCell 0 _).setCell 1 _).setCell 2 _).setCell 3 _)
  have Y5 : Hid (Box4 (((((v3.setCell ⟨w.heap.size + 2, 3, none⟩ (.slice (some ⟨gd, 0, none⟩) s.l s.l)).setCell ⟨w.heap.size + 1, 0, none⟩ (.slice (some ⟨ga, 0, none⟩) s.n s.n)).setCell ⟨w.heap.size + 1, 1, none⟩ (.int .i64 s.t)).setCell ⟨w.heap.size + 1, 2, none⟩ (.slice (some ⟨gb, 0, none⟩) s.m s.m)).setCell ⟨w.heap.size + 1, 3, none⟩ (.slice (some ⟨gd, 0, none⟩) s.l s.l)) (w.heap.size + 1) 30 (.slice (some ⟨ga, 0, none⟩) s.n s.n) (.int .i64 s.t) (.slice (some ⟨gb, 0, none⟩) s.m s.m) (.slice (some ⟨gd, 0, none⟩) s.l s.l)) := (((((Y.out.ofBlock (O1.block _ Y.out.lt (by omega))).set0 _).set1 _).set2 _).set3 _)
  have B5 : Hid (Below w.heap.size w (((((v3.setCell ⟨w.heap.size + 2, 3, none⟩ (.slice (some ⟨gd, 0, none⟩) s.l s.l)).setCell ⟨w.heap.size + 1, 0, none⟩ (.slice (some ⟨ga, 0, none⟩) s.n s.n)).setCell ⟨w.heap.size + 1, 1, none⟩ (.int .i64 s.t)).setCell ⟨w.heap.size + 1, 2, none⟩ (.slice (some ⟨gb, 0, none⟩) s.m s.m)).setCell ⟨w.heap.size + 1, 3, none⟩ (.slice (some ⟨gd, 0, none⟩) s.l s.l))) := A1.out.trans (O2.toBelow (by omega) A1.out.size)
  have R0 : Hid (RpO (((((v3.setCell ⟨w.heap.size + 2, 3, none⟩ (.slice (some ⟨gd, 0, none⟩) s.l s.l)).setCell ⟨w.heap.size + 1, 0, none⟩ (.slice (some ⟨ga, 0, none⟩) s.n s.n)).setCell ⟨w.heap.size + 1, 1, none⟩ (.int .i64 s.t)).setCell ⟨w.heap.size + 1, 2, none⟩ (.slice (some ⟨gb, 0, none⟩) s.m s.m)).setCell ⟨w.heap.size + 1, 3, none⟩ (.slice (some ⟨gd, 0, none⟩) s.l s.l)) w.heap.size ga s.n s.R VA) := by
    have q := N0.out.keep O2.size (fun k h1 h2 => O2.block k h2 (by omega))
    exact ⟨⟨by have := q.1.1; omega, q.1.2⟩, q.2⟩
  have R1 : Hid (WoO (((((v3.setCell ⟨w.heap.size + 2, 3, none⟩ (.slice (some ⟨gd, 0, none⟩) s.l s.l)).setCell ⟨w.heap.size + 1, 0, none⟩ (.slice (some ⟨ga, 0, none⟩) s.n s.n)).setCell ⟨w.heap.size + 1, 1, none⟩ (.int .i64 s.t)).setCell ⟨w.heap.size + 1, 2, none⟩ (.slice (some ⟨gb, 0, none⟩) s.m s.m)).setCell ⟨w.heap.size + 1, 3, none⟩ (.slice (some ⟨gd, 0, none⟩) s.l s.l)) w.heap.size gb s.m s.W VB) := by
    have q := N1.out.keep O2.size (fun k h1 h2 => O2.block k h2 (by omega))
    exact ⟨⟨by have := q.1.1; omega, q.1.2⟩, q.2⟩
  have R2 : Hid (RoO (((((v3.setCell ⟨w.heap.size + 2, 3, none⟩ (.slice (some ⟨gd, 0, none⟩) s.l s.l)).setCell ⟨w.heap.size + 1, 0, none⟩ (.slice (some ⟨ga, 0, none⟩) s.n s.n)).setCell ⟨w.heap.size + 1, 1, none⟩ (.int .i64 s.t)).setCell ⟨w.heap.size + 1, 2, none⟩ (.slice (some ⟨gb, 0, none⟩) s.m s.m)).setCell ⟨w.heap.size + 1, 3, none⟩ (.slice (some ⟨gd, 0, none⟩) s.l s.l)) w.heap.size gd s.l s.Q VD) := by
    have q := N2.out.keep O2.size (fun k h1 h2 => O2.block k h2 (by omega))
    exact ⟨⟨by have := q.1.1; omega, q.1.2⟩, q.2⟩
  clear O1 O2 X Y Z N0 N1 N2 A1 SZ T0 T1 T2 HA G0 G1 G2
  go_wp2
  exact ret_cell (b := w.heap.size + 1) Try.results22 rfl (Box4.loadsv Y5.out) ⟨⟨ga, gb, gd, VA, VB, VD, rfl, R0.out, R1.out, R2.out⟩, B5.out⟩
end Go.Proofs.Ytdoacpnjggdojaa
