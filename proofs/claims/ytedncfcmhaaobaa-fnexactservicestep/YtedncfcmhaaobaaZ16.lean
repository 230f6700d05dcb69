/-
  Texts of the proof, joined: SvcH.
-/
import Derived.Test.YtedncfcmhaaobaaZ15
namespace Go.Proofs.Ytedncfcmhaaobaa
open Go.ChangeShapes Go.WideShapes Go.ChangeAt Go.RowKit
set_option linter.unusedVariables false
theorem rpLoad {w : World} {b : Nat} {r : Rp} {v : Value} (h : w.rowIs b 43 8 (rpV r v)) (hv : v.oneCell' = true) : (loadVar 43 ⟨b, 0, none⟩).run Try.prog w = .ok (.agg #[.bool r.mute, .int .i64 r.nc, .int .i64 r.nt, .int .i64 r.sc, .int .i64 r.st, v, .int .i64 r.bc, .int .i64 r.bt]) w := by
 have h0 := World.rowIs.cell h (i := 0) (by omega)
 have h1 := World.rowIs.cell h (i := 1) (by omega)
 have h2 := World.rowIs.cell h (i := 2) (by omega)
 have h3 := World.rowIs.cell h (i := 3) (by omega)
 have h4 := World.rowIs.cell h (i := 4) (by omega)
 have h5 := World.rowIs.cell h (i := 5) (by omega)
 have h6 := World.rowIs.cell h (i := 6) (by omega)
 have h7 := World.rowIs.cell h (i := 7) (by omega)
 simp only [rpV] at h0 h1 h2 h3 h4 h5 h6 h7
 go_simp
set_option maxRecDepth 100000 in
set_option maxHeartbeats 4000000 in
theorem toReplica_any (r : Rp) (a : Option Addr) (c : Nat) (hn : r.ne ≤ 1048576) (w : World) (h : Num w a r.ne r.E) :
  Calls Try.prog 78 #[.agg #[.bool r.mute, .int .i64 r.nc, .int .i64 r.nt, .int .i64 r.sc, .int .i64 r.st, .slice a r.ne c, .int .i64 r.bc, .int .i64 r.bt]] w fun e w' => (∃ g, w.heap.size ≤ g ∧ e = .returned (.agg #[.bool r.mute, .int .i64 r.nc, .int .i64 r.nt, .int .i64 r.sc, .int .i64 r.st, .slice (some ⟨g, 0, none⟩) r.ne r.ne, .int .i64 r.bc, .int .i64 r.bt]) ∧ w'.rowIs g 3 r.ne (fun i => .int .i64 (r.E i))) ∧ Below w.heap.size w w' := by
 have TM : Hid (∀ (x y : Int) (w : World), Calls Try.prog 101 #[.agg #[.int .i64 x, .int .i64 y]] w fun e w' => e = .returned (.agg #[.int .i64 x, .int .i64 y]) ∧ Below w.heap.size w w') := toMark_any
 have TI : Hid (∀ w : World, Num w a r.ne r.E → Calls Try.prog 102 #[.slice a r.ne c] w fun e w' => e = .returned (.slice (some ⟨w.heap.size, 0, none⟩) r.ne r.ne) ∧ w'.rowIs w.heap.size 3 r.ne (fun i => .int .i64 (r.E i)) ∧ Below w.heap.size w w') := fun w h => toIntS_any a r.ne c r.E w h.ints hn
 have HA : Hid (Num w a r.ne r.E) := h
 have A1 : Hid (Below w.heap.size w (((w.alloc (.cells #[.bool r.mute, .int .i64 r.nc, .int .i64 r.nt, .int .i64 r.sc, .int .i64 r.st, .slice a r.ne c, .int .i64 r.bc, .int .i64 r.bt] 110)).alloc (.cells #[.bool false, .int .i64 0, .int .i64 0, .int .i64 0, .int .i64 0, .slice none 0 0, .int .i64 0, .int .i64 0] 43)).alloc (.cells #[.bool r.mute, .int .i64 0, .int .i64 0, .int .i64 0, .int .i64 0, .slice none 0 0, .int .i64 0, .int .i64 0] 43))) := (((Below.refl w.heap.size w).alloc (Nat.le_refl _) _).alloc (by simp) _).alloc (by simp; omega) _
 have SZ : Hid (w.heap.size + 3 ≤ ((((w.alloc (.cells #[.bool r.mute, .int .i64 r.nc, .int .i64 r.nt, .int .i64 r.sc, .int .i64 r.st, .slice a r.ne c, .int .i64 r.bc, .int .i64 r.bt] 110)).alloc (.cells #[.bool false, .int .i64 0, .int .i64 0, .int .i64 0, .int .i64 0, .slice none 0 0, .int .i64 0, .int .i64 0] 43)).alloc (.cells #[.bool r.mute, .int .i64 0, .int .i64 0, .int .i64 0, .int .i64 0, .slice none 0 0, .int .i64 0, .int .i64 0] 43))).heap.size) := by show w.heap.size + 3 ≤ _; simp
 have mk : ∀ (u : World) (b : Nat) (t : TypeId) (vs : Array Value) (f : Nat → Value), u.heap.size = b → vs.size = 8 → (∀ i, i < 8 → vs[i]? = some (f i)) → (u.alloc (.cells vs t)).rowIs b t 8 f := fun u b t vs f hb hs hf => by
  subst hb
  have q := World.rowIs_alloc u vs t f (fun i hi => hf i (by omega))
  rw [hs] at q
  exact q
 have X : Hid ((((w.alloc (.cells #[.bool r.mute, .int .i64 r.nc, .int .i64 r.nt, .int .i64 r.sc, .int .i64 r.st, .slice a r.ne c, .int .i64 r.bc, .int .i64 r.bt] 110)).alloc (.cells #[.bool false, .int .i64 0, .int .i64 0, .int .i64 0, .int .i64 0, .slice none 0 0, .int .i64 0, .int .i64 0] 43)).alloc (.cells #[.bool r.mute, .int .i64 0, .int .i64 0, .int .i64 0, .int .i64 0, .slice none 0 0, .int .i64 0, .int .i64 0] 43)).rowIs w.heap.size 110 8 (rpV r (.slice a r.ne c))) := World.rowIs.alloc (World.rowIs.alloc (mk w _ _ _ _ rfl rfl (fun i hi => by rcases (show i = 0 ∨ i = 1 ∨ i = 2 ∨ i = 3 ∨ i = 4 ∨ i = 5 ∨ i = 6 ∨ i = 7 by omega) with rfl | rfl | rfl | rfl | rfl | rfl | rfl | rfl <;> rfl)) _) _
 have Y : Hid ((((w.alloc (.cells #[.bool r.mute, .int .i64 r.nc, .int .i64 r.nt, .int .i64 r.sc, .int .i64 r.st, .slice a r.ne c, .int .i64 r.bc, .int .i64 r.bt] 110)).alloc (.cells #[.bool false, .int .i64 0, .int .i64 0, .int .i64 0, .int .i64 0, .slice none 0 0, .int .i64 0, .int .i64 0] 43)).alloc (.cells #[.bool r.mute, .int .i64 0, .int .i64 0, .int .i64 0, .int .i64 0, .slice none 0 0, .int .i64 0, .int .i64 0] 43)).rowIs (w.heap.size + 1) 43 8 (fun j => if j = 0 then .bool false else if j = 1 then .int .i64 0 else if j = 2 then .int .i64 0 else if j = 3 then .int .i64 0 else if j = 4 then .int .i64 0 else if j = 5 then .slice none 0 0 else if j = 6 then .int .i64 0 else .int .i64 0)) := World.rowIs.alloc (mk _ _ _ _ _ (by simp) rfl (fun i hi => by rcases (show i = 0 ∨ i = 1 ∨ i = 2 ∨ i = 3 ∨ i = 4 ∨ i = 5 ∨ i = 6 ∨ i = 7 by omega) with rfl | rfl | rfl | rfl | rfl | rfl | rfl | rfl <;> rfl)) _
 have Z : Hid ((((w.alloc (.cells #[.bool r.mute, .int .i64 r.nc, .int .i64 r.nt, .int .i64 r.sc, .int .i64 r.st, .slice a r.ne c, .int .i64 r.bc, .int .i64 r.bt] 110)).alloc (.cells #[.bool false, .int .i64 0, .int .i64 0, .int .i64 0, .int .i64 0, .slice none 0 0, .int .i64 0, .int .i64 0] 43)).alloc (.cells #[.bool r.mute, .int .i64 0, .int .i64 0, .int .i64 0, .int .i64 0, .slice none 0 0, .int .i64 0, .int .i64 0] 43)).rowIs (w.heap.size + 2) 43 8 (fun j => if j = 0 then .bool r.mute else if j = 1 then .int .i64 0 else if j = 2 then .int .i64 0 else if j = 3 then .int .i64 0 else if j = 4 then .int .i64 0 else if j = 5 then .slice none 0 0 else if j = 6 then .int .i64 0 else .int .i64 0)) := mk _ _ _ _ _ (by simp) rfl (fun i hi => by rcases (show i = 0 ∨ i = 1 ∨ i = 2 ∨ i = 3 ∨ i = 4 ∨ i = 5 ∨ i = 6 ∨ i = 7 by omega) with rfl | rfl | rfl | rfl | rfl | rfl | rfl | rfl <;> rfl)
 clear h hn mk
 go_enter Try.func78, Try.ntmps78
 go_wp2_with fail
 generalize (((w.alloc (.cells #[.bool r.mute, .int .i64 r.nc, .int .i64 r.nt, .int .i64 r.sc, .int .i64 r.st, .slice a r.ne c, .int .i64 r.bc, .int .i64 r.bt] 110)).alloc (.cells #[.bool false, .int .i64 0, .int .i64 0, .int .i64 0, .int .i64 0, .slice none 0 0, .int .i64 0, .int .i64 0] 43)).alloc (.cells #[.bool r.mute, .int .i64 0, .int .i64 0, .int .i64 0, .int .i64 0, .slice none 0 0, .int .i64 0, .int .i64 0] 43)) = u0 at *
 refine (TM.out _ _ _).mono ?_
 rintro e v1 ⟨rfl, hb⟩
 replace A1 : Hid (Below w.heap.size w v1) := A1.out.trans (hb.mono A1.out.size)
 replace SZ : Hid (w.heap.size + 3 ≤ v1.heap.size) := Nat.le_trans SZ.out hb.size
 replace X : Hid (v1.rowIs w.heap.size 110 8 (rpV r (.slice a r.ne c))) := World.rowIs.of_block X.out (hb.block _ (World.rowIs.lt X.out))
 replace Y : Hid (v1.rowIs (w.heap.size + 1) 43 8 (fun j => if j = 0 then .bool false else if j = 1 then .int .i64 0 else if j = 2 then .int .i64 0 else if j = 3 then .int .i64 0 else if j = 4 then .int .i64 0 else if j = 5 then .slice none 0 0 else if j = 6 then .int .i64 0 else .int .i64 0)) := World.rowIs.of_block Y.out (hb.block _ (World.rowIs.lt Y.out))
 replace Z : Hid (v1.rowIs (w.heap.size + 2) 43 8 (fun j => if j = 0 then .bool r.mute else if j = 1 then .int .i64 0 else if j = 2 then .int .i64 0 else if j = 3 then .int .i64 0 else if j = 4 then .int .i64 0 else if j = 5 then .slice none 0 0 else if j = 6 then .int .i64 0 else .int .i64 0)) := World.rowIs.of_block Z.out (hb.block _ (World.rowIs.lt Z.out))
 clear hb
 have x0 := World.rowIs.cell X.out (i := 0) (by omega)
 have x1 := World.rowIs.cell X.out (i := 1) (by omega)
 have x2 := World.rowIs.cell X.out (i := 2) (by omega)
 have x3 := World.rowIs.cell X.out (i := 3) (by omega)
 have x4 := World.rowIs.cell X.out (i := 4) (by omega)
 have x5 := World.rowIs.cell X.out (i := 5) (by omega)
 have x6 := World.rowIs.cell X.out (i := 6) (by omega)
 have x7 := World.rowIs.cell X.out (i := 7) (by omega)
 have z0 := World.rowIs.cell Z.out (i := 0) (by omega)
 have z1 := World.rowIs.cell Z.out (i := 1) (by omega)
 have z2 := World.rowIs.cell Z.out (i := 2) (by omega)
 have z3 := World.rowIs.cell Z.out (i := 3) (by omega)
 have z4 := World.rowIs.cell Z.out (i := 4) (by omega)
 have z5 := World.rowIs.cell Z.out (i := 5) (by omega)
 have z6 := World.rowIs.cell Z.out (i := 6) (by omega)
 have z7 := World.rowIs.cell Z.out (i := 7) (by omega)
 simp only [rpV] at x0 x1 x2 x3 x4 x5 x6 x7
 simp at z0 z1 z2 z3 z4 z5 z6 z7
 have zf0 := World.rowIs.frozen Z.out 0
 have zf1 := World.rowIs.frozen Z.out 1
 have zf2 := World.rowIs.frozen Z.out 2
 have zf3 := World.rowIs.frozen Z.out 3
 have zf4 := World.rowIs.frozen Z.out 4
 have zf5 := World.rowIs.frozen Z.out 5
 have zf6 := World.rowIs.frozen Z.out 6
 have zf7 := World.rowIs.frozen Z.out 7
 have O1 : OnlyB (w.heap.size + 2) v1 ((v1.setCell ⟨w.heap.size + 2, 1, none⟩ (.int .i64 r.nc)).setCell ⟨w.heap.size + 2, 2, none⟩ (.int .i64 r.nt)) := (((OnlyB.refl (w.heap.size + 2) v1).setCell 1 _).setCell 2 _)
 replace Z : Hid (((v1.setCell ⟨w.heap.size + 2, 1, none⟩ (.int .i64 r.nc)).setCell ⟨w.heap.size + 2, 2, none⟩ (.int .i64 r.nt)).rowIs (w.heap.size + 2) 43 8 (fun j => if j = 0 then .bool r.mute else if j = 1 then .int .i64 r.nc else if j = 2 then .int .i64 r.nt else if j = 3 then .int .i64 0 else if j = 4 then .int .i64 0 else if j = 5 then .slice none 0 0 else if j = 6 then .int .i64 0 else .int .i64 0)) := World.rowIs.congr (World.rowIs.set (World.rowIs.set Z.out 1 (.int .i64 r.nc)) 2 (.int .i64 r.nt)) (fun j hj => by rcases (show j = 0 ∨ j = 1 ∨ j = 2 ∨ j = 3 ∨ j = 4 ∨ j = 5 ∨ j = 6 ∨ j = 7 by omega) with rfl | rfl | rfl | rfl | rfl | rfl | rfl | rfl <;> rfl)
 replace X : Hid (((v1.setCell ⟨w.heap.size + 2, 1, none⟩ (.int .i64 r.nc)).setCell ⟨w.heap.size + 2, 2, none⟩ (.int .i64 r.nt)).rowIs w.heap.size 110 8 (rpV r (.slice a r.ne c))) := World.rowIs.of_block X.out (O1.block _ (World.rowIs.lt X.out) (by omega))
 replace A1 : Hid (Below w.heap.size w ((v1.setCell ⟨w.heap.size + 2, 1, none⟩ (.int .i64 r.nc)).setCell ⟨w.heap.size + 2, 2, none⟩ (.int .i64 r.nt))) := A1.out.trans (O1.toBelow (by omega) A1.out.size)
 replace SZ : Hid (w.heap.size + 3 ≤ ((v1.setCell ⟨w.heap.size + 2, 1, none⟩ (.int .i64 r.nc)).setCell ⟨w.heap.size + 2, 2, none⟩ (.int .i64 r.nt)).heap.size) := Nat.le_trans SZ.out O1.size
 replace Y : Hid (((v1.setCell ⟨w.heap.size + 2, 1, none⟩ (.int .i64 r.nc)).setCell ⟨w.heap.size + 2, 2, none⟩ (.int .i64 r.nt)).rowIs (w.heap.size + 1) 43 8 (fun j => if j = 0 then .bool false else if j = 1 then .int .i64 0 else if j = 2 then .int .i64 0 else if j = 3 then .int .i64 0 else if j = 4 then .int .i64 0 else if j = 5 then .slice none 0 0 else if j = 6 then .int .i64 0 else .int .i64 0)) := World.rowIs.of_block Y.out (O1.block _ (World.rowIs.lt Y.out) (by omega))
 clear O1
 go_wp2_with fail
 generalize ((v1.setCell ⟨w.heap.size + 2, 1, none⟩ (.int .i64 r.nc)).setCell ⟨w.heap.size + 2, 2, none⟩ (.int .i64 r.nt)) = u1 at *
 clear x0 z0 zf0 x1 z1 zf1 x2 z2 zf2 x3 z3 zf3 x4 z4 zf4 x5 z5 zf5 x6 z6 zf6 x7 z7 zf7
 refine (TM.out _ _ _).mono ?_
 rintro e v2 ⟨rfl, hb⟩
 replace A1 : Hid (Below w.heap.size w v2) := A1.out.trans (hb.mono A1.out.size)
 replace SZ : Hid (w.heap.size + 3 ≤ v2.heap.size) := Nat.le_trans SZ.out hb.size
 replace X : Hid (v2.rowIs w.heap.size 110 8 (rpV r (.slice a r.ne c))) := World.rowIs.of_block X.out (hb.block _ (World.rowIs.lt X.out))
 replace Y : Hid (v2.rowIs (w.heap.size + 1) 43 8 (fun j => if j = 0 then .bool false else if j = 1 then .int .i64 0 else if j = 2 then .int .i64 0 else if j = 3 then .int .i64 0 else if j = 4 then .int .i64 0 else if j = 5 then .slice none 0 0 else if j = 6 then .int .i64 0 else .int .i64 0)) := World.rowIs.of_block Y.out (hb.block _ (World.rowIs.lt Y.out))
 replace Z : Hid (v2.rowIs (w.heap.size + 2) 43 8 (fun j => if j = 0 then .bool r.mute else if j = 1 then .int .i64 r.nc else if j = 2 then .int .i64 r.nt else if j = 3 then .int .i64 0 else if j = 4 then .int .i64 0 else if j = 5 then .slice none 0 0 else if j = 6 then .int .i64 0 else .int .i64 0)) := World.rowIs.of_block Z.out (hb.block _ (World.rowIs.lt Z.out))
 clear hb
 have x0 := World.rowIs.cell X.out (i := 0) (by omega)
 have x1 := World.rowIs.cell X.out (i := 1) (by omega)
 have x2 := World.rowIs.cell X.out (i := 2) (by omega)
 have x3 := World.rowIs.cell X.out (i := 3) (by omega)
 have x4 := World.rowIs.cell X.out (i := 4) (by omega)
 have x5 := World.rowIs.cell X.out (i := 5) (by omega)
 have x6 := World.rowIs.cell X.out (i := 6) (by omega)
 have x7 := World.rowIs.cell X.out (i := 7) (by omega)
 have z0 := World.rowIs.cell Z.out (i := 0) (by omega)
 have z1 := World.rowIs.cell Z.out (i := 1) (by omega)
 have z2 := World.rowIs.cell Z.out (i := 2) (by omega)
 have z3 := World.rowIs.cell Z.out (i := 3) (by omega)
 have z4 := World.rowIs.cell Z.out (i := 4) (by omega)
 have z5 := World.rowIs.cell Z.out (i := 5) (by omega)
 have z6 := World.rowIs.cell Z.out (i := 6) (by omega)
 have z7 := World.rowIs.cell Z.out (i := 7) (by omega)
 simp only [rpV] at x0 x1 x2 x3 x4 x5 x6 x7
 simp at z0 z1 z2 z3 z4 z5 z6 z7
 have zf0 := World.rowIs.frozen Z.out 0
 have zf1 := World.rowIs.frozen Z.out 1
 have zf2 := World.rowIs.frozen Z.out 2
 have zf3 := World.rowIs.frozen Z.out 3
 have zf4 := World.rowIs.frozen Z.out 4
 have zf5 := World.rowIs.frozen Z.out 5
 have zf6 := World.rowIs.frozen Z.out 6
 have zf7 := World.rowIs.frozen Z.out 7
 have O1 : OnlyB (w.heap.size + 2) v2 ((v2.setCell ⟨w.heap.size + 2, 3, none⟩ (.int .i64 r.sc)).setCell ⟨w.heap.size + 2, 4, none⟩ (.int .i64 r.st)) := (((OnlyB.refl (w.heap.size + 2) v2).setCell 3 _).setCell 4 _)
 replace Z : Hid (((v2.setCell ⟨w.heap.size + 2, 3, none⟩ (.int .i64 r.sc)).setCell ⟨w.heap.size + 2, 4, none⟩ (.int .i64 r.st)).rowIs (w.heap.size + 2) 43 8 (fun j => if j = 0 then .bool r.mute else if j = 1 then .int .i64 r.nc else if j = 2 then .int .i64 r.nt else if j = 3 then .int .i64 r.sc else if j = 4 then .int .i64 r.st else if j = 5 then .slice none 0 0 else if j = 6 then .int .i64 0 else .int .i64 0)) := World.rowIs.congr (World.rowIs.set (World.rowIs.set Z.out 3 (.int .i64 r.sc)) 4 (.int .i64 r.st)) (fun j hj => by rcases (show j = 0 ∨ j = 1 ∨ j = 2 ∨ j = 3 ∨ j = 4 ∨ j = 5 ∨ j = 6 ∨ j = 7 by omega) with rfl | rfl | rfl | rfl | rfl | rfl | rfl | rfl <;> rfl)
 replace X : Hid (((v2.setCell ⟨w.heap.size + 2, 3, none⟩ (.int .i64 r.sc)).setCell ⟨w.heap.size + 2, 4, none⟩ (.int .i64 r.st)).rowIs w.heap.size 110 8 (rpV r (.slice a r.ne c))) := World.rowIs.of_block X.out (O1.block _ (World.rowIs.lt X.out) (by omega))
 replace A1 : Hid (Below w.heap.size w ((v2.setCell ⟨w.heap.size + 2, 3, none⟩ (.int .i64 r.sc)).setCell ⟨w.heap.size + 2, 4, none⟩ (.int .i64 r.st))) := A1.out.trans (O1.toBelow (by omega) A1.out.size)
 replace SZ : Hid (w.heap.size + 3 ≤ ((v2.setCell ⟨w.heap.size + 2, 3, none⟩ (.int .i64 r.sc)).setCell ⟨w.heap.size + 2, 4, none⟩ (.int .i64 r.st)).heap.size) := Nat.le_trans SZ.out O1.size
 replace Y : Hid (((v2.setCell ⟨w.heap.size + 2, 3, none⟩ (.int .i64 r.sc)).setCell ⟨w.heap.size + 2, 4, none⟩ (.int .i64 r.st)).rowIs (w.heap.size + 1) 43 8 (fun j => if j = 0 then .bool false else if j = 1 then .int .i64 0 else if j = 2 then .int .i64 0 else if j = 3 then .int .i64 0 else if j = 4 then .int .i64 0 else if j = 5 then .slice none 0 0 else if j = 6 then .int .i64 0 else .int .i64 0)) := World.rowIs.of_block Y.out (O1.block _ (World.rowIs.lt Y.out) (by omega))
 clear O1
 go_wp2_with fail
 generalize ((v2.setCell ⟨w.heap.size + 2, 3, none⟩ (.int .i64 r.sc)).setCell ⟨w.heap.size + 2, 4, none⟩ (.int .i64 r.st)) = u2 at *
 clear x0 z0 zf0 x1 z1 zf1 x2 z2 zf2 x3 z3 zf3 x4 z4 zf4 x5 z5 zf5 x6 z6 zf6 x7 z7 zf7
 obtain ⟨g, hg⟩ : ∃ g, g = u2.heap.size := ⟨_, rfl⟩
 have GE : Hid (w.heap.size + 3 ≤ g) := by rw [hg]; exact SZ.out
 refine (TI.out _ (HA.out.below A1.out)).mono ?_
 rintro e v3 ⟨rfl, hr, hb⟩
 rw [← hg] at hr ⊢
 have NR : Hid (v3.rowIs g 3 r.ne (fun i => .int .i64 (r.E i))) := hr
 clear hr hg
 replace A1 : Hid (Below w.heap.size w v3) := A1.out.trans (hb.mono A1.out.size)
 replace SZ : Hid (w.heap.size + 3 ≤ v3.heap.size) := Nat.le_trans SZ.out hb.size
 replace X : Hid (v3.rowIs w.heap.size 110 8 (rpV r (.slice a r.ne c))) := World.rowIs.of_block X.out (hb.block _ (World.rowIs.lt X.out))
 replace Y : Hid (v3.rowIs (w.heap.size + 1) 43 8 (fun j => if j = 0 then .bool false else if j = 1 then .int .i64 0 else if j = 2 then .int .i64 0 else if j = 3 then .int .i64 0 else if j = 4 then .int .i64 0 else if j = 5 then .slice none 0 0 else if j = 6 then .int .i64 0 else .int .i64 0)) := World.rowIs.of_block Y.out (hb.block _ (World.rowIs.lt Y.out))
 replace Z : Hid (v3.rowIs (w.heap.size + 2) 43 8 (fun j => if j = 0 then .bool r.mute else if j = 1 then .int .i64 r.nc else if j = 2 then .int .i64 r.nt else if j = 3 then .int .i64 r.sc else if j = 4 then .int .i64 r.st else if j = 5 then .slice none 0 0 else if j = 6 then .int .i64 0 else .int .i64 0)) := World.rowIs.of_block Z.out (hb.block _ (World.rowIs.lt Z.out))
 clear hb
 have x0 := World.rowIs.cell X.out (i := 0) (by omega)
 have x1 := World.rowIs.cell X.out (i := 1) (by omega)
 have x2 := World.rowIs.cell X.out (i := 2) (by omega)
 have x3 := World.rowIs.cell X.out (i := 3) (by omega)
 have x4 := World.rowIs.cell X.out (i := 4) (by omega)
 have x5 := World.rowIs.cell X.out (i := 5) (by omega)
 have x6 := World.rowIs.cell X.out (i := 6) (by omega)
 have x7 := World.rowIs.cell X.out (i := 7) (by omega)
 have z0 := World.rowIs.cell Z.out (i := 0) (by omega)
 have z1 := World.rowIs.cell Z.out (i := 1) (by omega)
 have z2 := World.rowIs.cell Z.out (i := 2) (by omega)
 have z3 := World.rowIs.cell Z.out (i := 3) (by omega)
 have z4 := World.rowIs.cell Z.out (i := 4) (by omega)
 have z5 := World.rowIs.cell Z.out (i := 5) (by omega)
 have z6 := World.rowIs.cell Z.out (i := 6) (by omega)
 have z7 := World.rowIs.cell Z.out (i := 7) (by omega)
 simp only [rpV] at x0 x1 x2 x3 x4 x5 x6 x7
 simp at z0 z1 z2 z3 z4 z5 z6 z7
 have zf0 := World.rowIs.frozen Z.out 0
 have zf1 := World.rowIs.frozen Z.out 1
 have zf2 := World.rowIs.frozen Z.out 2
 have zf3 := World.rowIs.frozen Z.out 3
 have zf4 := World.rowIs.frozen Z.out 4
 have zf5 := World.rowIs.frozen Z.out 5
 have zf6 := World.rowIs.frozen Z.out 6
 have zf7 := World.rowIs.frozen Z.out 7
 have O1 : OnlyB (w.heap.size + 2) v3 (v3.setCell ⟨w.heap.size + 2, 5, none⟩ (.slice (some ⟨g, 0, none⟩) r.ne r.ne)) := ((OnlyB.refl (w.heap.size + 2) v3).setCell 5 _)
 replace Z : Hid ((v3.setCell ⟨w.heap.size + 2, 5, none⟩ (.slice (some ⟨g, 0, none⟩) r.ne r.ne)).rowIs (w.heap.size + 2) 43 8 (fun j => if j = 0 then .bool r.mute else if j = 1 then .int .i64 r.nc else if j = 2 then .int .i64 r.nt else if j = 3 then .int .i64 r.sc else if j = 4 then .int .i64 r.st else if j = 5 then .slice (some ⟨g, 0, none⟩) r.ne r.ne else if j = 6 then .int .i64 0 else .int .i64 0)) := World.rowIs.congr (World.rowIs.set Z.out 5 (.slice (some ⟨g, 0, none⟩) r.ne r.ne)) (fun j hj => by rcases (show j = 0 ∨ j = 1 ∨ j = 2 ∨ j = 3 ∨ j = 4 ∨ j = 5 ∨ j = 6 ∨ j = 7 by omega) with rfl | rfl | rfl | rfl | rfl | rfl | rfl | rfl <;> rfl)
 replace X : Hid ((v3.setCell ⟨w.heap.size + 2, 5, none⟩ (.slice (some ⟨g, 0, none⟩) r.ne r.ne)).rowIs w.heap.size 110 8 (rpV r (.slice a r.ne c))) := World.rowIs.of_block X.out (O1.block _ (World.rowIs.lt X.out) (by omega))
 replace A1 : Hid (Below w.heap.size w (v3.setCell ⟨w.heap.size + 2, 5, none⟩ (.slice (some ⟨g, 0, none⟩) r.ne r.ne))) := A1.out.trans (O1.toBelow (by omega) A1.out.size)
 replace SZ : Hid (w.heap.size + 3 ≤ (v3.setCell ⟨w.heap.size + 2, 5, none⟩ (.slice (some ⟨g, 0, none⟩) r.ne r.ne)).heap.size) := Nat.le_trans SZ.out O1.size
 replace NR : Hid ((v3.setCell ⟨w.heap.size + 2, 5, none⟩ (.slice (some ⟨g, 0, none⟩) r.ne r.ne)).rowIs g 3 r.ne (fun i => .int .i64 (r.E i))) := World.rowIs.of_block NR.out (O1.block _ (World.rowIs.lt NR.out) (by have := GE.out; omega))
 replace Y : Hid ((v3.setCell ⟨w.heap.size + 2, 5, none⟩ (.slice (some ⟨g, 0, none⟩) r.ne r.ne)).rowIs (w.heap.size + 1) 43 8 (fun j => if j = 0 then .bool false else if j = 1 then .int .i64 0 else if j = 2 then .int .i64 0 else if j = 3 then .int .i64 0 else if j = 4 then .int .i64 0 else if j = 5 then .slice none 0 0 else if j = 6 then .int .i64 0 else .int .i64 0)) := World.rowIs.of_block Y.out (O1.block _ (World.rowIs.lt Y.out) (by omega))
 clear O1
 go_wp2_with fail
 generalize (v3.setCell ⟨w.heap.size + 2, 5, none⟩ (.slice (some ⟨g, 0, none⟩) r.ne r.ne)) = u3 at *
 clear x0 z0 zf0 x1 z1 zf1 x2 z2 zf2 x3 z3 zf3 x4 z4 zf4 x5 z5 zf5 x6 z6 zf6 x7 z7 zf7
 refine (TM.out _ _ _).mono ?_
 rintro e v4 ⟨rfl, hb⟩
 replace A1 : Hid (Below w.heap.size w v4) := A1.out.trans (hb.mono A1.out.size)
 replace SZ : Hid (w.heap.size + 3 ≤ v4.heap.size) := Nat.le_trans SZ.out hb.size
 replace X : Hid (v4.rowIs w.heap.size 110 8 (rpV r (.slice a r.ne c))) := World.rowIs.of_block X.out (hb.block _ (World.rowIs.lt X.out))
 replace Y : Hid (v4.rowIs (w.heap.size + 1) 43 8 (fun j => if j = 0 then .bool false else if j = 1 then .int .i64 0 else if j = 2 then .int .i64 0 else if j = 3 then .int .i64 0 else if j = 4 then .int .i64 0 else if j = 5 then .slice none 0 0 else if j = 6 then .int .i64 0 else .int .i64 0)) := World.rowIs.of_block Y.out (hb.block _ (World.rowIs.lt Y.out))
 replace Z : Hid (v4.rowIs (w.heap.size + 2) 43 8 (fun j => if j = 0 then .bool r.mute else if j = 1 then .int .i64 r.nc else if j = 2 then .int .i64 r.nt else if j = 3 then .int .i64 r.sc else if j = 4 then .int .i64 r.st else if j = 5 then .slice (some ⟨g, 0, none⟩) r.ne r.ne else if j = 6 then .int .i64 0 else .int .i64 0)) := World.rowIs.of_block Z.out (hb.block _ (World.rowIs.lt Z.out))
 replace NR : Hid (v4.rowIs g 3 r.ne (fun i => .int .i64 (r.E i))) := World.rowIs.of_block NR.out (hb.block _ (World.rowIs.lt NR.out))
 clear hb
 have x0 := World.rowIs.cell X.out (i := 0) (by omega)
 have x1 := World.rowIs.cell X.out (i := 1) (by omega)
 have x2 := World.rowIs.cell X.out (i := 2) (by omega)
 have x3 := World.rowIs.cell X.out (i := 3) (by omega)
 have x4 := World.rowIs.cell X.out (i := 4) (by omega)
 have x5 := World.rowIs.cell X.out (i := 5) (by omega)
 have x6 := World.rowIs.cell X.out (i := 6) (by omega)
 have x7 := World.rowIs.cell X.out (i := 7) (by omega)
 have z0 := World.rowIs.cell Z.out (i := 0) (by omega)
 have z1 := World.rowIs.cell Z.out (i := 1) (by omega)
 have z2 := World.rowIs.cell Z.out (i := 2) (by omega)
 have z3 := World.rowIs.cell Z.out (i := 3) (by omega)
 have z4 := World.rowIs.cell Z.out (i := 4) (by omega)
 have z5 := World.rowIs.cell Z.out (i := 5) (by omega)
 have z6 := World.rowIs.cell Z.out (i := 6) (by omega)
 have z7 := World.rowIs.cell Z.out (i := 7) (by omega)
 simp only [rpV] at x0 x1 x2 x3 x4 x5 x6 x7
 simp at z0 z1 z2 z3 z4 z5 z6 z7
 have zf0 := World.rowIs.frozen Z.out 0
 have zf1 := World.rowIs.frozen Z.out 1
 have zf2 := World.rowIs.frozen Z.out 2
 have zf3 := World.rowIs.frozen Z.out 3
 have zf4 := World.rowIs.frozen Z.out 4
 have zf5 := World.rowIs.frozen Z.out 5
 have zf6 := World.rowIs.frozen Z.out 6
 have zf7 := World.rowIs.frozen Z.out 7
 have O1 : OnlyB (w.heap.size + 2) v4 ((v4.setCell ⟨w.heap.size + 2, 6, none⟩ (.int .i64 r.bc)).setCell ⟨w.heap.size + 2, 7, none⟩ (.int .i64 r.bt)) := (((OnlyB.refl (w.heap.size + 2) v4).setCell 6 _).setCell 7 _)
 replace Z : Hid (((v4.setCell ⟨w.heap.size + 2, 6, none⟩ (.int .i64 r.bc)).setCell ⟨w.heap.size + 2, 7, none⟩ (.int .i64 r.bt)).rowIs (w.heap.size + 2) 43 8 (fun j => if j = 0 then .bool r.mute else if j = 1 then .int .i64 r.nc else if j = 2 then .int .i64 r.nt else if j = 3 then .int .i64 r.sc else if j = 4 then .int .i64 r.st else if j = 5 then .slice (some ⟨g, 0, none⟩) r.ne r.ne else if j = 6 then .int .i64 r.bc else .int .i64 r.bt)) := World.rowIs.congr (World.rowIs.set (World.rowIs.set Z.out 6 (.int .i64 r.bc)) 7 (.int .i64 r.bt)) (fun j hj => by rcases (show j = 0 ∨ j = 1 ∨ j = 2 ∨ j = 3 ∨ j = 4 ∨ j = 5 ∨ j = 6 ∨ j = 7 by omega) with rfl | rfl | rfl | rfl | rfl | rfl | rfl | rfl <;> rfl)
 replace X : Hid (((v4.setCell ⟨w.heap.size + 2, 6, none⟩ (.int .i64 r.bc)).setCell ⟨w.heap.size + 2, 7, none⟩ (.int .i64 r.bt)).rowIs w.heap.size 110 8 (rpV r (.slice a r.ne c))) := World.rowIs.of_block X.out (O1.block _ (World.rowIs.lt X.out) (by omega))
 replace A1 : Hid (Below w.heap.size w ((v4.setCell ⟨w.heap.size + 2, 6, none⟩ (.int .i64 r.bc)).setCell ⟨w.heap.size + 2, 7, none⟩ (.int .i64 r.bt))) := A1.out.trans (O1.toBelow (by omega) A1.out.size)
 replace SZ : Hid (w.heap.size + 3 ≤ ((v4.setCell ⟨w.heap.size + 2, 6, none⟩ (.int .i64 r.bc)).setCell ⟨w.heap.size + 2, 7, none⟩ (.int .i64 r.bt)).heap.size) := Nat.le_trans SZ.out O1.size
 replace NR : Hid (((v4.setCell ⟨w.heap.size + 2, 6, none⟩ (.int .i64 r.bc)).setCell ⟨w.heap.size + 2, 7, none⟩ (.int .i64 r.bt)).rowIs g 3 r.ne (fun i => .int .i64 (r.E i))) := World.rowIs.of_block NR.out (O1.block _ (World.rowIs.lt NR.out) (by have := GE.out; omega))
 have y0 := World.rowIs.cell Y.out (i := 0) (by omega)
 have yf0 := World.rowIs.frozen Y.out 0
 have y1 := World.rowIs.cell Y.out (i := 1) (by omega)
 have yf1 := World.rowIs.frozen Y.out 1
 have y2 := World.rowIs.cell Y.out (i := 2) (by omega)
 have yf2 := World.rowIs.frozen Y.out 2
 have y3 := World.rowIs.cell Y.out (i := 3) (by omega)
 have yf3 := World.rowIs.frozen Y.out 3
 have y4 := World.rowIs.cell Y.out (i := 4) (by omega)
 have yf4 := World.rowIs.frozen Y.out 4
 have y5 := World.rowIs.cell Y.out (i := 5) (by omega)
 have yf5 := World.rowIs.frozen Y.out 5
 have y6 := World.rowIs.cell Y.out (i := 6) (by omega)
 have yf6 := World.rowIs.frozen Y.out 6
 have y7 := World.rowIs.cell Y.out (i := 7) (by omega)
 have yf7 := World.rowIs.frozen Y.out 7
 simp at y0 y1 y2 y3 y4 y5 y6 y7
 have O2 : OnlyB (w.heap.size + 1) ((v4.setCell ⟨w.heap.size + 2, 6, none⟩ (.int .i64 r.bc)).setCell ⟨w.heap.size + 2, 7, none⟩ (.int .i64 r.bt)) ((((((((((v4.setCell ⟨w.heap.size + 2, 6, none⟩ (.int .i64 r.bc)).setCell ⟨w.heap.size + 2, 7, none⟩ (.int .i64 r.bt)).setCell ⟨w.heap.size + 1, 0, none⟩ (.bool r.mute)).setCell ⟨w.heap.size + 1, 1, none⟩ (.int .i64 r.nc)).setCell ⟨w.heap.size + 1, 2, none⟩ (.int .i64 r.nt)).setCell ⟨w.heap.size + 1, 3, none⟩ (.int .i64 r.sc)).setCell ⟨w.heap.size + 1, 4, none⟩ (.int .i64 r.st)).setCell ⟨w.heap.size + 1, 5, none⟩ (.slice (some ⟨g, 0, none⟩) r.ne r.ne)).setCell ⟨w.heap.size + 1, 6, none⟩ (.int .i64 r.bc)).setCell ⟨w.heap.size + 1, 7, none⟩ (.int .i64 r.bt)) := (((((((((OnlyB.refl (w.heap.size + 1) ((v4.setCell ⟨w.heap.size + 2, 6, none⟩ (.int .i64 r.bc)).setCell ⟨w.heap.size + 2, 7, none⟩ (.int .i64 r.bt))).setCell 0 _).setCell 1 _).setCell 2 _).setCell 3 _).setCell 4 _).setCell 5 _).setCell 6 _).setCell 7 _)
 have Y5 : Hid (((((((((((v4.setCell ⟨w.heap.size + 2, 6, none⟩ (.int .i64 r.bc)).setCell ⟨w.heap.size + 2, 7, none⟩ (.int .i64 r.bt)).setCell ⟨w.heap.size + 1, 0, none⟩ (.bool r.mute)).setCell ⟨w.heap.size + 1, 1, none⟩ (.int .i64 r.nc)).setCell ⟨w.heap.size + 1, 2, none⟩ (.int .i64 r.nt)).setCell ⟨w.heap.size + 1, 3, none⟩ (.int .i64 r.sc)).setCell ⟨w.heap.size + 1, 4, none⟩ (.int .i64 r.st)).setCell ⟨w.heap.size + 1, 5, none⟩ (.slice (some ⟨g, 0, none⟩) r.ne r.ne)).setCell ⟨w.heap.size + 1, 6, none⟩ (.int .i64 r.bc)).setCell ⟨w.heap.size + 1, 7, none⟩ (.int .i64 r.bt)).rowIs (w.heap.size + 1) 43 8 (rpV r (.slice (some ⟨g, 0, none⟩) r.ne r.ne))) := World.rowIs.congr (World.rowIs.set (World.rowIs.set (World.rowIs.set (World.rowIs.set (World.rowIs.set (World.rowIs.set (World.rowIs.set (World.rowIs.set (World.rowIs.of_block Y.out (O1.block _ (World.rowIs.lt Y.out) (by omega))) 0 (.bool r.mute)) 1 (.int .i64 r.nc)) 2 (.int .i64 r.nt)) 3 (.int .i64 r.sc)) 4 (.int .i64 r.st)) 5 (.slice (some ⟨g, 0, none⟩) r.ne r.ne)) 6 (.int .i64 r.bc)) 7 (.int .i64 r.bt)) (fun j hj => by rcases (show j = 0 ∨ j = 1 ∨ j = 2 ∨ j = 3 ∨ j = 4 ∨ j = 5 ∨ j = 6 ∨ j = 7 by omega) with rfl | rfl | rfl | rfl | rfl | rfl | rfl | rfl <;> rfl)
 have R5 : Hid (((((((((((v4.setCell ⟨w.heap.size + 2, 6, none⟩ (.int .i64 r.bc)).setCell ⟨w.heap.size + 2, 7, none⟩ (.int .i64 r.bt)).setCell ⟨w.heap.size + 1, 0, none⟩ (.bool r.mute)).setCell ⟨w.heap.size + 1, 1, none⟩ (.int .i64 r.nc)).setCell ⟨w.heap.size + 1, 2, none⟩ (.int .i64 r.nt)).setCell ⟨w.heap.size + 1, 3, none⟩ (.int .i64 r.sc)).setCell ⟨w.heap.size + 1, 4, none⟩ (.int .i64 r.st)).setCell ⟨w.heap.size + 1, 5, none⟩ (.slice (some ⟨g, 0, none⟩) r.ne r.ne)).setCell ⟨w.heap.size + 1, 6, none⟩ (.int .i64 r.bc)).setCell ⟨w.heap.size + 1, 7, none⟩ (.int .i64 r.bt)).rowIs g 3 r.ne (fun i => .int .i64 (r.E i))) := World.rowIs.of_block NR.out (O2.block _ (World.rowIs.lt NR.out) (by have := GE.out; omega))
 have B5 : Hid (Below w.heap.size w ((((((((((v4.setCell ⟨w.heap.size + 2, 6, none⟩ (.int .i64 r.bc)).setCell ⟨w.heap.size + 2, 7, none⟩ (.int .i64 r.bt)).setCell ⟨w.heap.size + 1, 0, none⟩ (.bool r.mute)).setCell ⟨w.heap.size + 1, 1, none⟩ (.int .i64 r.nc)).setCell ⟨w.heap.size + 1, 2, none⟩ (.int .i64 r.nt)).setCell ⟨w.heap.size + 1, 3, none⟩ (.int .i64 r.sc)).setCell ⟨w.heap.size + 1, 4, none⟩ (.int .i64 r.st)).setCell ⟨w.heap.size + 1, 5, none⟩ (.slice (some ⟨g, 0, none⟩) r.ne r.ne)).setCell ⟨w.heap.size + 1, 6, none⟩ (.int .i64 r.bc)).setCell ⟨w.heap.size + 1, 7, none⟩ (.int .i64 r.bt))) := A1.out.trans (O2.toBelow (by omega) A1.out.size)
 clear O1 O2 X Y Z NR A1 SZ TM TI HA
 go_wp2
 exact ret_cell (b := w.heap.size + 1) Try.results78 rfl (rpLoad Y5.out rfl) ⟨⟨g, by have := GE.out; omega, rfl, R5.out⟩, B5.out⟩
theorem woLoad {w : World} {b : Nat} {r : Wo} {v : Value} (h : w.rowIs b 37 5 (woV r v)) (hv : v.oneCell' = true) : (loadVar 37 ⟨b, 0, none⟩).run Try.prog w = .ok (.agg #[.int .i64 r.mc, .int .i64 r.mt, v, .int .i64 r.bg, .int .i64 r.en]) w := by
 have h0 := World.rowIs.cell h (i := 0) (by omega)
 have h1 := World.rowIs.cell h (i := 1) (by omega)
 have h2 := World.rowIs.cell h (i := 2) (by omega)
 have h3 := World.rowIs.cell h (i := 3) (by omega)
 have h4 := World.rowIs.cell h (i := 4) (by omega)
 simp only [woV] at h0 h1 h2 h3 h4
 go_simp
set_option maxRecDepth 100000 in
set_option maxHeartbeats 4000000 in
theorem toWriteOp_any (r : Wo) (a : Option Addr) (c : Nat) (hn : r.ne ≤ 1048576) (w : World) (h : Num w a r.ne r.E) :
  Calls Try.prog 79 #[.agg #[.int .i64 r.mc, .int .i64 r.mt, .slice a r.ne c, .int .i64 r.bg, .int .i64 r.en]] w fun e w' => (∃ g, w.heap.size ≤ g ∧ e = .returned (.agg #[.int .i64 r.mc, .int .i64 r.mt, .slice (some ⟨g, 0, none⟩) r.ne r.ne, .int .i64 r.bg, .int .i64 r.en]) ∧ w'.rowIs g 3 r.ne (fun i => .int .i64 (r.E i))) ∧ Below w.heap.size w w' := by
 have TM : Hid (∀ (x y : Int) (w : World), Calls Try.prog 101 #[.agg #[.int .i64 x, .int .i64 y]] w fun e w' => e = .returned (.agg #[.int .i64 x, .int .i64 y]) ∧ Below w.heap.size w w') := toMark_any
 have TI : Hid (∀ w : World, Num w a r.ne r.E → Calls Try.prog 102 #[.slice a r.ne c] w fun e w' => e = .returned (.slice (some ⟨w.heap.size, 0, none⟩) r.ne r.ne) ∧ w'.rowIs w.heap.size 3 r.ne (fun i => .int .i64 (r.E i)) ∧ Below w.heap.size w w') := fun w h => toIntS_any a r.ne c r.E w h.ints hn
 have HA : Hid (Num w a r.ne r.E) := h
 have A1 : Hid (Below w.heap.size w (((w.alloc (.cells #[.int .i64 r.mc, .int .i64 r.mt, .slice a r.ne c, .int .i64 r.bg, .int .i64 r.en] 113)).alloc (.cells #[.int .i64 0, .int .i64 0, .slice none 0 0, .int .i64 0, .int .i64 0] 37)).alloc (.cells #[.int .i64 0, .int .i64 0, .slice none 0 0, .int .i64 0, .int .i64 0] 37))) := (((Below.refl w.heap.size w).alloc (Nat.le_refl _) _).alloc (by simp) _).alloc (by simp; omega) _
 have SZ : Hid (w.heap.size + 3 ≤ ((((w.alloc (.cells #[.int .i64 r.mc, .int .i64 r.mt, .slice a r.ne c, .int .i64 r.bg, .int .i64 r.en] 113)).alloc (.cells #[.int .i64 0, .int .i64 0, .slice none 0 0, .int .i64 0, .int .i64 0] 37)).alloc (.cells #[.int .i64 0, .int .i64 0, .slice none 0 0, .int .i64 0, .int .i64 0] 37))).heap.size) := by show w.heap.size + 3 ≤ _; simp
 have mk : ∀ (u : World) (b : Nat) (t : TypeId) (vs : Array Value) (f : Nat → Value), u.heap.size = b → vs.size = 5 → (∀ i, i < 5 → vs[i]? = some (f i)) → (u.alloc (.cells vs t)).rowIs b t 5 f := fun u b t vs f hb hs hf => by
  subst hb
  have q := World.rowIs_alloc u vs t f (fun i hi => hf i (by omega))
  rw [hs] at q
  exact q
 have X : Hid ((((w.alloc (.cells #[.int .i64 r.mc, .int .i64 r.mt, .slice a r.ne c, .int .i64 r.bg, .int .i64 r.en] 113)).alloc (.cells #[.int .i64 0, .int .i64 0, .slice none 0 0, .int .i64 0, .int .i64 0] 37)).alloc (.cells #[.int .i64 0, .int .i64 0, .slice none 0 0, .int .i64 0, .int .i64 0] 37)).rowIs w.heap.size 113 5 (woV r (.slice a r.ne c))) := World.rowIs.alloc (World.rowIs.alloc (mk w _ _ _ _ rfl rfl (fun i hi => by rcases (show i = 0 ∨ i = 1 ∨ i = 2 ∨ i = 3 ∨ i = 4 by omega) with rfl | rfl | rfl | rfl | rfl <;> rfl)) _) _
 have Y : Hid ((((w.alloc (.cells #[.int .i64 r.mc, .int .i64 r.mt, .slice a r.ne c, .int .i64 r.bg, .int .i64 r.en] 113)).alloc (.cells #[.int .i64 0, .int .i64 0, .slice none 0 0, .int .i64 0, .int .i64 0] 37)).alloc (.cells #[.int .i64 0, .int .i64 0, .slice none 0 0, .int .i64 0, .int .i64 0] 37)).rowIs (w.heap.size + 1) 37 5 (fun j => if j = 0 then .int .i64 0 else if j = 1 then .int .i64 0 else if j = 2 then .slice none 0 0 else if j = 3 then .int .i64 0 else .int .i64 0)) := World.rowIs.alloc (mk _ _ _ _ _ (by simp) rfl (fun i hi => by rcases (show i = 0 ∨ i = 1 ∨ i = 2 ∨ i = 3 ∨ i = 4 by omega) with rfl | rfl | rfl | rfl | rfl <;> rfl)) _
 have Z : Hid ((((w.alloc (.cells #[.int .i64 r.mc, .int .i64 r.mt, .slice a r.ne c, .int .i64 r.bg, .int .i64 r.en] 113)).alloc (.cells #[.int .i64 0, .int .i64 0, .slice none 0 0, .int .i64 0, .int .i64 0] 37)).alloc (.cells #[.int .i64 0, .int .i64 0, .slice none 0 0, .int .i64 0, .int .i64 0] 37)).rowIs (w.heap.size + 2) 37 5 (fun j => if j = 0 then .int .i64 0 else if j = 1 then .int .i64 0 else if j = 2 then .slice none 0 0 else if j = 3 then .int .i64 0 else .int .i64 0)) := mk _ _ _ _ _ (by simp) rfl (fun i hi => by rcases (show i = 0 ∨ i = 1 ∨ i = 2 ∨ i = 3 ∨ i = 4 by omega) with rfl | rfl | rfl | rfl | rfl <;> rfl)
 clear h hn mk
 go_enter Try.func79, Try.ntmps79
 go_wp2_with fail
 generalize (((w.alloc (.cells #[.int .i64 r.mc, .int .i64 r.mt, .slice a r.ne c, .int .i64 r.bg, .int .i64 r.en] 113)).alloc (.cells #[.int .i64 0, .int .i64 0, .slice none 0 0, .int .i64 0, .int .i64 0] 37)).alloc (.cells #[.int .i64 0, .int .i64 0, .slice none 0 0, .int .i64 0, .int .i64 0] 37)) = u0 at *
 refine (TM.out _ _ _).mono ?_
 rintro e v1 ⟨rfl, hb⟩
 replace A1 : Hid (Below w.heap.size w v1) := A1.out.trans (hb.mono A1.out.size)
 replace SZ : Hid (w.heap.size + 3 ≤ v1.heap.size) := Nat.le_trans SZ.out hb.size
 replace X : Hid (v1.rowIs w.heap.size 113 5 (woV r (.slice a r.ne c))) := World.rowIs.of_block X.out (hb.block _ (World.rowIs.lt X.out))
 replace Y : Hid (v1.rowIs (w.heap.size + 1) 37 5 (fun j => if j = 0 then .int .i64 0 else if j = 1 then .int .i64 0 else if j = 2 then .slice none 0 0 else if j = 3 then .int .i64 0 else .int .i64 0)) := World.rowIs.of_block Y.out (hb.block _ (World.rowIs.lt Y.out))
 replace Z : Hid (v1.rowIs (w.heap.size + 2) 37 5 (fun j => if j = 0 then .int .i64 0 else if j = 1 then .int .i64 0 else if j = 2 then .slice none 0 0 else if j = 3 then .int .i64 0 else .int .i64 0)) := World.rowIs.of_block Z.out (hb.block _ (World.rowIs.lt Z.out))
 clear hb
 have x0 := World.rowIs.cell X.out (i := 0) (by omega)
 have x1 := World.rowIs.cell X.out (i := 1) (by omega)
 have x2 := World.rowIs.cell X.out (i := 2) (by omega)
 have x3 := World.rowIs.cell X.out (i := 3) (by omega)
 have x4 := World.rowIs.cell X.out (i := 4) (by omega)
 have z0 := World.rowIs.cell Z.out (i := 0) (by omega)
 have z1 := World.rowIs.cell Z.out (i := 1) (by omega)
 have z2 := World.rowIs.cell Z.out (i := 2) (by omega)
 have z3 := World.rowIs.cell Z.out (i := 3) (by omega)
 have z4 := World.rowIs.cell Z.out (i := 4) (by omega)
 simp only [woV] at x0 x1 x2 x3 x4
 simp at z0 z1 z2 z3 z4
 have zf0 := World.rowIs.frozen Z.out 0
 have zf1 := World.rowIs.frozen Z.out 1
 have zf2 := World.rowIs.frozen Z.out 2
 have zf3 := World.rowIs.frozen Z.out 3
 have zf4 := World.rowIs.frozen Z.out 4
 have O1 : OnlyB (w.heap.size + 2) v1 ((v1.setCell ⟨w.heap.size + 2, 0, none⟩ (.int .i64 r.mc)).setCell ⟨w.heap.size + 2, 1, none⟩ (.int .i64 r.mt)) := (((OnlyB.refl (w.heap.size + 2) v1).setCell 0 _).setCell 1 _)
 replace Z : Hid (((v1.setCell ⟨w.heap.size + 2, 0, none⟩ (.int .i64 r.mc)).setCell ⟨w.heap.size + 2, 1, none⟩ (.int .i64 r.mt)).rowIs (w.heap.size + 2) 37 5 (fun j => if j = 0 then .int .i64 r.mc else if j = 1 then .int .i64 r.mt else if j = 2 then .slice none 0 0 else if j = 3 then .int .i64 0 else .int .i64 0)) := World.rowIs.congr (World.rowIs.set (World.rowIs.set Z.out 0 (.int .i64 r.mc)) 1 (.int .i64 r.mt)) (fun j hj => by rcases (show j = 0 ∨ j = 1 ∨ j = 2 ∨ j = 3 ∨ j = 4 by omega) with rfl | rfl | rfl | rfl | rfl <;> rfl)
 replace X : Hid (((v1.setCell ⟨w.heap.size + 2, 0, none⟩ (.int .i64 r.mc)).setCell ⟨w.heap.size + 2, 1, none⟩ (.int .i64 r.mt)).rowIs w.heap.size 113 5 (woV r (.slice a r.ne c))) := World.rowIs.of_block X.out (O1.block _ (World.rowIs.lt X.out) (by omega))
 replace A1 : Hid (Below w.heap.size w ((v1.setCell ⟨w.heap.size + 2, 0, none⟩ (.int .i64 r.mc)).setCell ⟨w.heap.size + 2, 1, none⟩ (.int .i64 r.mt))) := A1.out.trans (O1.toBelow (by omega) A1.out.size)
 replace SZ : Hid (w.heap.size + 3 ≤ ((v1.setCell ⟨w.heap.size + 2, 0, none⟩ (.int .i64 r.mc)).setCell ⟨w.heap.size + 2, 1, none⟩ (.int .i64 r.mt)).heap.size) := Nat.le_trans SZ.out O1.size
 replace Y : Hid (((v1.setCell ⟨w.heap.size + 2, 0, none⟩ (.int .i64 r.mc)).setCell ⟨w.heap.size + 2, 1, none⟩ (.int .i64 r.mt)).rowIs (w.heap.size + 1) 37 5 (fun j => if j = 0 then .int .i64 0 else if j = 1 then .int .i64 0 else if j = 2 then .slice none 0 0 else if j = 3 then .int .i64 0 else .int .i64 0)) := World.rowIs.of_block Y.out (O1.block _ (World.rowIs.lt Y.out) (by omega))
 clear O1
 go_wp2_with fail
 generalize ((v1.setCell ⟨w.heap.size + 2, 0, none⟩ (.int .i64 r.mc)).setCell ⟨w.heap.size + 2, 1, none⟩ (.int .i64 r.mt)) = u1 at *
 clear x0 z0 zf0 x1 z1 zf1 x2 z2 zf2 x3 z3 zf3 x4 z4 zf4
 obtain ⟨g, hg⟩ : ∃ g, g = u1.heap.size := ⟨_, rfl⟩
 have GE : Hid (w.heap.size + 3 ≤ g) := by rw [hg]; exact SZ.out
 refine (TI.out _ (HA.out.below A1.out)).mono ?_
 rintro e v2 ⟨rfl, hr, hb⟩
 rw [← hg] at hr ⊢
 have NR : Hid (v2.rowIs g 3 r.ne (fun i => .int .i64 (r.E i))) := hr
 clear hr hg
 replace A1 : Hid (Below w.heap.size w v2) := A1.out.trans (hb.mono A1.out.size)
 replace SZ : Hid (w.heap.size + 3 ≤ v2.heap.size) := Nat.le_trans SZ.out hb.size
 replace X : Hid (v2.rowIs w.heap.size 113 5 (woV r (.slice a r.ne c))) := World.rowIs.of_block X.out (hb.block _ (World.rowIs.lt X.out))
 replace Y : Hid (v2.rowIs (w.heap.size + 1) 37 5 (fun j => if j = 0 then .int .i64 0 else if j = 1 then .int .i64 0 else if j = 2 then .slice none 0 0 else if j = 3 then .int .i64 0 else .int .i64 0)) := World.rowIs.of_block Y.out (hb.block _ (World.rowIs.lt Y.out))
 replace Z : Hid (v2.rowIs (w.heap.size + 2) 37 5 (fun j => if j = 0 then .int .i64 r.mc else if j = 1 then .int .i64 r.mt else if j = 2 then .slice none 0 0 else if j = 3 then .int .i64 0 else .int .i64 0)) := World.rowIs.of_block Z.out (hb.block _ (World.rowIs.lt Z.out))
 clear hb
 have x0 := World.rowIs.cell X.out (i := 0) (by omega)
 have x1 := World.rowIs.cell X.out (i := 1) (by omega)
 have x2 := World.rowIs.cell X.out (i := 2) (by omega)
 have x3 := World.rowIs.cell X.out (i := 3) (by omega)
 have x4 := World.rowIs.cell X.out (i := 4) (by omega)
 have z0 := World.rowIs.cell Z.out (i := 0) (by omega)
 have z1 := World.rowIs.cell Z.out (i := 1) (by omega)
 have z2 := World.rowIs.cell Z.out (i := 2) (by omega)
 have z3 := World.rowIs.cell Z.out (i := 3) (by omega)
 have z4 := World.rowIs.cell Z.out (i := 4) (by omega)
 simp only [woV] at x0 x1 x2 x3 x4
 simp at z0 z1 z2 z3 z4
 have zf0 := World.rowIs.frozen Z.out 0
 have zf1 := World.rowIs.frozen Z.out 1
 have zf2 := World.rowIs.frozen Z.out 2
 have zf3 := World.rowIs.frozen Z.out 3
 have zf4 := World.rowIs.frozen Z.out 4
 have O1 : OnlyB (w.heap.size + 2) v2 (((v2.setCell ⟨w.heap.size + 2, 2, none⟩ (.slice (some ⟨g, 0, none⟩) r.ne r.ne)).setCell ⟨w.heap.size + 2, 3, none⟩ (.int .i64 r.bg)).setCell ⟨w.heap.size + 2, 4, none⟩ (.int .i64 r.en)) := ((((OnlyB.refl (w.heap.size + 2) v2).setCell 2 _).setCell 3 _).setCell 4 _)
 replace Z : Hid ((((v2.setCell ⟨w.heap.size + 2, 2, none⟩ (.slice (some ⟨g, 0, none⟩) r.ne r.ne)).setCell ⟨w.heap.size + 2, 3, none⟩ (.int .i64 r.bg)).setCell ⟨w.heap.size + 2, 4, none⟩ (.int .i64 r.en)).rowIs (w.heap.size + 2) 37 5 (fun j => if j = 0 then .int .i64 r.mc else if j = 1 then .int .i64 r.mt else if j = 2 then .slice (some ⟨g, 0, none⟩) r.ne r.ne else if j = 3 then .int .i64 r.bg else .int .i64 r.en)) := World.rowIs.congr (World.rowIs.set (World.rowIs.set (World.rowIs.set Z.out 2 (.slice (some ⟨g, 0, none⟩) r.ne r.ne)) 3 (.int .i64 r.bg)) 4 (.int .i64 r.en)) (fun j hj => by rcases (show j = 0 ∨ j = 1 ∨ j = 2 ∨ j = 3 ∨ j = 4 by omega) with rfl | rfl | rfl | rfl | rfl <;> rfl)
 replace X : Hid ((((v2.setCell ⟨w.heap.size + 2, 2, none⟩ (.slice (some ⟨g, 0, none⟩) r.ne r.ne)).setCell ⟨w.heap.size + 2, 3, none⟩ (.int .i64 r.bg)).setCell ⟨w.heap.size + 2, 4, none⟩ (.int .i64 r.en)).rowIs w.heap.size 113 5 (woV r (.slice a r.ne c))) := World.rowIs.of_block X.out (O1.block _ (World.rowIs.lt X.out) (by omega))
 replace A1 : Hid (Below w.heap.size w (((v2.setCell ⟨w.heap.size + 2, 2, none⟩ (.slice (some ⟨g, 0, none⟩) r.ne r.ne)).setCell ⟨w.heap.size + 2, 3, none⟩ (.int .i64 r.bg)).setCell ⟨w.heap.size + 2, 4, none⟩ (.int .i64 r.en))) := A1.out.trans (O1.toBelow (by omega) A1.out.size)
 replace SZ : Hid (w.heap.size + 3 ≤ (((v2.setCell ⟨w.heap.size + 2, 2, none⟩ (.slice (some ⟨g, 0, none⟩) r.ne r.ne)).setCell ⟨w.heap.size + 2, 3, none⟩ (.int .i64 r.bg)).setCell ⟨w.heap.size + 2, 4, none⟩ (.int .i64 r.en)).heap.size) := Nat.le_trans SZ.out O1.size
 replace NR : Hid ((((v2.setCell ⟨w.heap.size + 2, 2, none⟩ (.slice (some ⟨g, 0, none⟩) r.ne r.ne)).setCell ⟨w.heap.size + 2, 3, none⟩ (.int .i64 r.bg)).setCell ⟨w.heap.size + 2, 4, none⟩ (.int .i64 r.en)).rowIs g 3 r.ne (fun i => .int .i64 (r.E i))) := World.rowIs.of_block NR.out (O1.block _ (World.rowIs.lt NR.out) (by have := GE.out; omega))
 have y0 := World.rowIs.cell Y.out (i := 0) (by omega)
 have yf0 := World.rowIs.frozen Y.out 0
 have y1 := World.rowIs.cell Y.out (i := 1) (by omega)
 have yf1 := World.rowIs.frozen Y.out 1
 have y2 := World.rowIs.cell Y.out (i := 2) (by omega)
 have yf2 := World.rowIs.frozen Y.out 2
 have y3 := World.rowIs.cell Y.out (i := 3) (by omega)
 have yf3 := World.rowIs.frozen Y.out 3
 have y4 := World.rowIs.cell Y.out (i := 4) (by omega)
 have yf4 := World.rowIs.frozen Y.out 4
 simp at y0 y1 y2 y3 y4
 have O2 : OnlyB (w.heap.size + 1) (((v2.setCell ⟨w.heap.size + 2, 2, none⟩ (.slice (some ⟨g, 0, none⟩) r.ne r.ne)).setCell ⟨w.heap.size + 2, 3, none⟩ (.int .i64 r.bg)).setCell ⟨w.heap.size + 2, 4, none⟩ (.int .i64 r.en)) ((((((((v2.setCell ⟨w.heap.size + 2, 2, none⟩ (.slice (some ⟨g, 0, none⟩) r.ne r.ne)).setCell ⟨w.heap.size + 2, 3, none⟩ (.int .i64 r.bg)).setCell ⟨w.heap.size + 2, 4, none⟩ (.int .i64 r.en)).setCell ⟨w.heap.size + 1, 0, none⟩ (.int .i64 r.mc)).setCell ⟨w.heap.size + 1, 1, none⟩ (.int .i64 r.mt)).setCell ⟨w.heap.size + 1, 2, none⟩ (.slice (some ⟨g, 0, none⟩) r.ne r.ne)).setCell ⟨w.heap.size + 1, 3, none⟩ (.int .i64 r.bg)).setCell ⟨w.heap.size + 1, 4, none⟩ (.int .i64 r.en)) := ((((((OnlyB.refl (w.heap.size + 1) (((v2.setCell ⟨w.heap.size + 2, 2, none⟩ (.slice (some ⟨g, 0, none⟩) r.ne r.ne)).setCell ⟨w.heap.size + 2, 3, none⟩ (.int .i64 r.bg)).setCell ⟨w.heap.size + 2, 4, none⟩ (.int .i64 r.en))).setCell 0 _).setCell 1 _).setCell 2 _).setCell 3 _).setCell 4 _)
 have Y5 : Hid (((((((((v2.setCell ⟨w.heap.size + 2, 2, none⟩ (.slice (some ⟨g, 0, none⟩) r.ne r.ne)).setCell ⟨w.heap.size + 2, 3, none⟩ (.int .i64 r.bg)).setCell ⟨w.heap.size + 2, 4, none⟩ (.int .i64 r.en)).setCell ⟨w.heap.size + 1, 0, none⟩ (.int .i64 r.mc)).setCell ⟨w.heap.size + 1, 1, none⟩ (.int .i64 r.mt)).setCell ⟨w.heap.size + 1, 2, none⟩ (.slice (some ⟨g, 0, none⟩) r.ne r.ne)).setCell ⟨w.heap.size + 1, 3, none⟩ (.int .i64 r.bg)).setCell ⟨w.heap.size + 1, 4, none⟩ (.int .i64 r.en)).rowIs (w.heap.size + 1) 37 5 (woV r (.slice (some ⟨g, 0, none⟩) r.ne r.ne))) := World.rowIs.congr (World.rowIs.set (World.rowIs.set (World.rowIs.set (World.rowIs.set (World.rowIs.set (World.rowIs.of_block Y.out (O1.block _ (World.rowIs.lt Y.out) (by omega))) 0 (.int .i64 r.mc)) 1 (.int .i64 r.mt)) 2 (.slice (some ⟨g, 0, none⟩) r.ne r.ne)) 3 (.int .i64 r.bg)) 4 (.int .i64 r.en)) (fun j hj => by rcases (show j = 0 ∨ j = 1 ∨ j = 2 ∨ j = 3 ∨ j = 4 by omega) with rfl | rfl | rfl | rfl | rfl <;> rfl)
 have R5 : Hid (((((((((v2.setCell ⟨w.heap.size + 2, 2, none⟩ (.slice (some ⟨g, 0, none⟩) r.ne r.ne)).setCell ⟨w.heap.size + 2, 3, none⟩ (.int .i64 r.bg)).setCell ⟨w.heap.size + 2, 4, none⟩ (.int .i64 r.en)).setCell ⟨w.heap.size + 1, 0, none⟩ (.int .i64 r.mc)).setCell ⟨w.heap.size + 1, 1, none⟩ (.int .i64 r.mt)).setCell ⟨w.heap.size + 1, 2, none⟩ (.slice (some ⟨g, 0, none⟩) r.ne r.ne)).setCell ⟨w.heap.size + 1, 3, none⟩ (.int .i64 r.bg)).setCell ⟨w.heap.size + 1, 4, none⟩ (.int .i64 r.en)).rowIs g 3 r.ne (fun i => .int .i64 (r.E i))) := World.rowIs.of_block NR.out (O2.block _ (World.rowIs.lt NR.out) (by have := GE.out; omega))
 have B5 : Hid (Below w.heap.size w ((((((((v2.setCell ⟨w.heap.size + 2, 2, none⟩ (.slice (some ⟨g, 0, none⟩) r.ne r.ne)).setCell ⟨w.heap.size + 2, 3, none⟩ (.int .i64 r.bg)).setCell ⟨w.heap.size + 2, 4, none⟩ (.int .i64 r.en)).setCell ⟨w.heap.size + 1, 0, none⟩ (.int .i64 r.mc)).setCell ⟨w.heap.size + 1, 1, none⟩ (.int .i64 r.mt)).setCell ⟨w.heap.size + 1, 2, none⟩ (.slice (some ⟨g, 0, none⟩) r.ne r.ne)).setCell ⟨w.heap.size + 1, 3, none⟩ (.int .i64 r.bg)).setCell ⟨w.heap.size + 1, 4, none⟩ (.int .i64 r.en))) := A1.out.trans (O2.toBelow (by omega) A1.out.size)
 clear O1 O2 X Y Z NR A1 SZ TM TI HA
 go_wp2
 exact ret_cell (b := w.heap.size + 1) Try.results79 rfl (woLoad Y5.out rfl) ⟨⟨g, by have := GE.out; omega, rfl, R5.out⟩, B5.out⟩
theorem roLoad {w : World} {b : Nat} {r : Ro} {v : Value} (h : w.rowIs b 90 5 (roV r v)) (hv : v.oneCell' = true) : (loadVar 90 ⟨b, 0, none⟩).run Try.prog w = .ok (.agg #[v, .int .i64 r.bc, .int .i64 r.bt, .int .i64 r.bg, .int .i64 r.en]) w := by
 have h0 := World.rowIs.cell h (i := 0) (by omega)
 have h1 := World.rowIs.cell h (i := 1) (by omega)
 have h2 := World.rowIs.cell h (i := 2) (by omega)
 have h3 := World.rowIs.cell h (i := 3) (by omega)
 have h4 := World.rowIs.cell h (i := 4) (by omega)
 simp only [roV] at h0 h1 h2 h3 h4
 go_simp
set_option maxRecDepth 100000 in
set_option maxHeartbeats 4000000 in
theorem toReadOp_any (r : Ro) (a : Option Addr) (c : Nat) (hn : r.ne ≤ 1048576) (w : World) (h : Num w a r.ne r.E) :
  Calls Try.prog 80 #[.agg #[.slice a r.ne c, .int .i64 r.bc, .int .i64 r.bt, .int .i64 r.bg, .int .i64 r.en]] w fun e w' => (∃ g, w.heap.size ≤ g ∧ e = .returned (.agg #[.slice (some ⟨g, 0, none⟩) r.ne r.ne, .int .i64 r.bc, .int .i64 r.bt, .int .i64 r.bg, .int .i64 r.en]) ∧ w'.rowIs g 3 r.ne (fun i => .int .i64 (r.E i))) ∧ Below w.heap.size w w' := by
 have TM : Hid (∀ (x y : Int) (w : World), Calls Try.prog 101 #[.agg #[.int .i64 x, .int .i64 y]] w fun e w' => e = .returned (.agg #[.int .i64 x, .int .i64 y]) ∧ Below w.heap.size w w') := toMark_any
 have TI : Hid (∀ w : World, Num w a r.ne r.E → Calls Try.prog 102 #[.slice a r.ne c] w fun e w' => e = .returned (.slice (some ⟨w.heap.size, 0, none⟩) r.ne r.ne) ∧ w'.rowIs w.heap.size 3 r.ne (fun i => .int .i64 (r.E i)) ∧ Below w.heap.size w w') := fun w h => toIntS_any a r.ne c r.E w h.ints hn
 have HA : Hid (Num w a r.ne r.E) := h
 have A1 : Hid (Below w.heap.size w (((w.alloc (.cells #[.slice a r.ne c, .int .i64 r.bc, .int .i64 r.bt, .int .i64 r.bg, .int .i64 r.en] 116)).alloc (.cells #[.slice none 0 0, .int .i64 0, .int .i64 0, .int .i64 0, .int .i64 0] 90)).alloc (.cells #[.slice none 0 0, .int .i64 0, .int .i64 0, .int .i64 0, .int .i64 0] 90))) := (((Below.refl w.heap.size w).alloc (Nat.le_refl _) _).alloc (by simp) _).alloc (by simp; omega) _
 have SZ : Hid (w.heap.size + 3 ≤ ((((w.alloc (.cells #[.slice a r.ne c, .int .i64 r.bc, .int .i64 r.bt, .int .i64 r.bg, .int .i64 r.en] 116)).alloc (.cells #[.slice none 0 0, .int .i64 0, .int .i64 0, .int .i64 0, .int .i64 0] 90)).alloc (.cells #[.slice none 0 0, .int .i64 0, .int .i64 0, .int .i64 0, .int .i64 0] 90))).heap.size) := by show w.heap.size + 3 ≤ _; simp
 have mk : ∀ (u : World) (b : Nat) (t : TypeId) (vs : Array Value) (f : Nat → Value), u.heap.size = b → vs.size = 5 → (∀ i, i < 5 → vs[i]? = some (f i)) → (u.alloc (.cells vs t)).rowIs b t 5 f := fun u b t vs f hb hs hf => by
  subst hb
  have q := World.rowIs_alloc u vs t f (fun i hi => hf i (by omega))
  rw [hs] at q
  exact q
 have X : Hid ((((w.alloc (.cells #[.slice a r.ne c, .int .i64 r.bc, .int .i64 r.bt, .int .i64 r.bg, .int .i64 r.en] 116)).alloc (.cells #[.slice none 0 0, .int .i64 0, .int .i64 0, .int .i64 0, .int .i64 0] 90)).alloc (.cells #[.slice none 0 0, .int .i64 0, .int .i64 0, .int .i64 0, .int .i64 0] 90)).rowIs w.heap.size 116 5 (roV r (.slice a r.ne c))) := World.rowIs.alloc (World.rowIs.alloc (mk w _ _ _ _ rfl rfl (fun i hi => by rcases (show i = 0 ∨ i = 1 ∨ i = 2 ∨ i = 3 ∨ i = 4 by omega) with rfl | rfl | rfl | rfl | rfl <;> rfl)) _) _
 have Y : Hid ((((w.alloc (.cells #[.slice a r.ne c, .int .i64 r.bc, .int .i64 r.bt, .int .i64 r.bg, .int .i64 r.en] 116)).alloc (.cells #[.slice none 0 0, .int .i64 0, .int .i64 0, .int .i64 0, .int .i64 0] 90)).alloc (.cells #[.slice none 0 0, .int .i64 0, .int .i64 0, .int .i64 0, .int .i64 0] 90)).rowIs (w.heap.size + 1) 90 5 (fun j => if j = 0 then .slice none 0 0 else if j = 1 then .int .i64 0 else if j = 2 then .int .i64 0 else if j = 3 then .int .i64 0 else .int .i64 0)) := World.rowIs.alloc (mk _ _ _ _ _ (by simp) rfl (fun i hi => by rcases (show i = 0 ∨ i = 1 ∨ i = 2 ∨ i = 3 ∨ i = 4 by omega) with rfl | rfl | rfl | rfl | rfl <;> rfl)) _
 have Z : Hid ((((w.alloc (.cells #[.slice a r.ne c, .int .i64 r.bc, .int .i64 r.bt, .int .i64 r.bg, .int .i64 r.en] 116)).alloc (.cells #[.slice none 0 0, .int .i64 0, .int .i64 0, .int .i64 0, .int .i64 0] 90)).alloc (.cells #[.slice none 0 0, .int .i64 0, .int .i64 0, .int .i64 0, .int .i64 0] 90)).rowIs (w.heap.size + 2) 90 5 (fun j => if j = 0 then .slice none 0 0 else if j = 1 then .int .i64 0 else if j = 2 then .int .i64 0 else if j = 3 then .int .i64 0 else .int .i64 0)) := mk _ _ _ _ _ (by simp) rfl (fun i hi => by rcases (show i = 0 ∨ i = 1 ∨ i = 2 ∨ i = 3 ∨ i = 4 by omega) with rfl | rfl | rfl | rfl | rfl <;> rfl)
 clear h hn mk
 go_enter Try.func80, Try.ntmps80
 go_wp2_with fail
 generalize (((w.alloc (.cells #[.slice a r.ne c, .int .i64 r.bc, .int .i64 r.bt, .int .i64 r.bg, .int .i64 r.en] 116)).alloc (.cells #[.slice none 0 0, .int .i64 0, .int .i64 0, .int .i64 0, .int .i64 0] 90)).alloc (.cells #[.slice none 0 0, .int .i64 0, .int .i64 0, .int .i64 0, .int .i64 0] 90)) = u0 at *
 obtain ⟨g, hg⟩ : ∃ g, g = u0.heap.size := ⟨_, rfl⟩
 have GE : Hid (w.heap.size + 3 ≤ g) := by rw [hg]; exact SZ.out
 refine (TI.out _ (HA.out.below A1.out)).mono ?_
 rintro e v1 ⟨rfl, hr, hb⟩
 rw [← hg] at hr ⊢
 have NR : Hid (v1.rowIs g 3 r.ne (fun i => .int .i64 (r.E i))) := hr
 clear hr hg
 replace A1 : Hid (Below w.heap.size w v1) := A1.out.trans (hb.mono A1.out.size)
 replace SZ : Hid (w.heap.size + 3 ≤ v1.heap.size) := Nat.le_trans SZ.out hb.size
 replace X : Hid (v1.rowIs w.heap.size 116 5 (roV r (.slice a r.ne c))) := World.rowIs.of_block X.out (hb.block _ (World.rowIs.lt X.out))
 replace Y : Hid (v1.rowIs (w.heap.size + 1) 90 5 (fun j => if j = 0 then .slice none 0 0 else if j = 1 then .int .i64 0 else if j = 2 then .int .i64 0 else if j = 3 then .int .i64 0 else .int .i64 0)) := World.rowIs.of_block Y.out (hb.block _ (World.rowIs.lt Y.out))
 replace Z : Hid (v1.rowIs (w.heap.size + 2) 90 5 (fun j => if j = 0 then .slice none 0 0 else if j = 1 then .int .i64 0 else if j = 2 then .int .i64 0 else if j = 3 then .int .i64 0 else .int .i64 0)) := World.rowIs.of_block Z.out (hb.block _ (World.rowIs.lt Z.out))
 clear hb
 have x0 := World.rowIs.cell X.out (i := 0) (by omega)
 have x1 := World.rowIs.cell X.out (i := 1) (by omega)
 have x2 := World.rowIs.cell X.out (i := 2) (by omega)
 have x3 := World.rowIs.cell X.out (i := 3) (by omega)
 have x4 := World.rowIs.cell X.out (i := 4) (by omega)
 have z0 := World.rowIs.cell Z.out (i := 0) (by omega)
 have z1 := World.rowIs.cell Z.out (i := 1) (by omega)
 have z2 := World.rowIs.cell Z.out (i := 2) (by omega)
 have z3 := World.rowIs.cell Z.out (i := 3) (by omega)
 have z4 := World.rowIs.cell Z.out (i := 4) (by omega)
 simp only [roV] at x0 x1 x2 x3 x4
 simp at z0 z1 z2 z3 z4
 have zf0 := World.rowIs.frozen Z.out 0
 have zf1 := World.rowIs.frozen Z.out 1
 have zf2 := World.rowIs.frozen Z.out 2
 have zf3 := World.rowIs.frozen Z.out 3
 have zf4 := World.rowIs.frozen Z.out 4
 have O1 : OnlyB (w.heap.size + 2) v1 (v1.setCell ⟨w.heap.size + 2, 0, none⟩ (.slice (some ⟨g, 0, none⟩) r.ne r.ne)) := ((OnlyB.refl (w.heap.size + 2) v1).setCell 0 _)
 replace Z : Hid ((v1.setCell ⟨w.heap.size + 2, 0, none⟩ (.slice (some ⟨g, 0, none⟩) r.ne r.ne)).rowIs (w.heap.size + 2) 90 5 (fun j => if j = 0 then .slice (some ⟨g, 0, none⟩) r.ne r.ne else if j = 1 then .int .i64 0 else if j = 2 then .int .i64 0 else if j = 3 then .int .i64 0 else .int .i64 0)) := World.rowIs.congr (World.rowIs.set Z.out 0 (.slice (some ⟨g, 0, none⟩) r.ne r.ne)) (fun j hj => by rcases (show j = 0 ∨ j = 1 ∨ j = 2 ∨ j = 3 ∨ j = 4 by omega) with rfl | rfl | rfl | rfl | rfl <;> rfl)
 replace X : Hid ((v1.setCell ⟨w.heap.size + 2, 0, none⟩ (.slice (some ⟨g, 0, none⟩) r.ne r.ne)).rowIs w.heap.size 116 5 (roV r (.slice a r.ne c))) := World.rowIs.of_block X.out (O1.block _ (World.rowIs.lt X.out) (by omega))
 replace A1 : Hid (Below w.heap.size w (v1.setCell ⟨w.heap.size + 2, 0, none⟩ (.slice (some ⟨g, 0, none⟩) r.ne r.ne))) := A1.out.trans (O1.toBelow (by omega) A1.out.size)
 replace SZ : Hid (w.heap.size + 3 ≤ (v1.setCell ⟨w.heap.size + 2, 0, none⟩ (.slice (some ⟨g, 0, none⟩) r.ne r.ne)).heap.size) := Nat.le_trans SZ.out O1.size
 replace NR : Hid ((v1.setCell ⟨w.heap.size + 2, 0, none⟩ (.slice (some ⟨g, 0, none⟩) r.ne r.ne)).rowIs g 3 r.ne (fun i => .int .i64 (r.E i))) := World.rowIs.of_block NR.out (O1.block _ (World.rowIs.lt NR.out) (by have := GE.out; omega))
 replace Y : Hid ((v1.setCell ⟨w.heap.size + 2, 0, none⟩ (.slice (some ⟨g, 0, none⟩) r.ne r.ne)).rowIs (w.heap.size + 1) 90 5 (fun j => if j = 0 then .slice none 0 0 else if j = 1 then .int .i64 0 else if j = 2 then .int .i64 0 else if j = 3 then .int .i64 0 else .int .i64 0)) := World.rowIs.of_block Y.out (O1.block _ (World.rowIs.lt Y.out) (by omega))
 clear O1
 go_wp2_with fail
 generalize (v1.setCell ⟨w.heap.size + 2, 0, none⟩ (.slice (some ⟨g, 0, none⟩) r.ne r.ne)) = u1 at *
 clear x0 z0 zf0 x1 z1 zf1 x2 z2 zf2 x3 z3 zf3 x4 z4 zf4
 refine (TM.out _ _ _).mono ?_
 rintro e v2 ⟨rfl, hb⟩
 replace A1 : Hid (Below w.heap.size w v2) := A1.out.trans (hb.mono A1.out.size)
 replace SZ : Hid (w.heap.size + 3 ≤ v2.heap.size) := Nat.le_trans SZ.out hb.size
 replace X : Hid (v2.rowIs w.heap.size 116 5 (roV r (.slice a r.ne c))) := World.rowIs.of_block X.out (hb.block _ (World.rowIs.lt X.out))
 replace Y : Hid (v2.rowIs (w.heap.size + 1) 90 5 (fun j => if j = 0 then .slice none 0 0 else if j = 1 then .int .i64 0 else if j = 2 then .int .i64 0 else if j = 3 then .int .i64 0 else .int .i64 0)) := World.rowIs.of_block Y.out (hb.block _ (World.rowIs.lt Y.out))
 replace Z : Hid (v2.rowIs (w.heap.size + 2) 90 5 (fun j => if j = 0 then .slice (some ⟨g, 0, none⟩) r.ne r.ne else if j = 1 then .int .i64 0 else if j = 2 then .int .i64 0 else if j = 3 then .int .i64 0 else .int .i64 0)) := World.rowIs.of_block Z.out (hb.block _ (World.rowIs.lt Z.out))
 replace NR : Hid (v2.rowIs g 3 r.ne (fun i => .int .i64 (r.E i))) := World.rowIs.of_block NR.out (hb.block _ (World.rowIs.lt NR.out))
 clear hb
 have x0 := World.rowIs.cell X.out (i := 0) (by omega)
 have x1 := World.rowIs.cell X.out (i := 1) (by omega)
 have x2 := World.rowIs.cell X.out (i := 2) (by omega)
 have x3 := World.rowIs.cell X.out (i := 3) (by omega)
 have x4 := World.rowIs.cell X.out (i := 4) (by omega)
 have z0 := World.rowIs.cell Z.out (i := 0) (by omega)
 have z1 := World.rowIs.cell Z.out (i := 1) (by omega)
 have z2 := World.rowIs.cell Z.out (i := 2) (by omega)
 have z3 := World.rowIs.cell Z.out (i := 3) (by omega)
 have z4 := World.rowIs.cell Z.out (i := 4) (by omega)
 simp only [roV] at x0 x1 x2 x3 x4
 simp at z0 z1 z2 z3 z4
 have zf0 := World.rowIs.frozen Z.out 0
 have zf1 := World.rowIs.frozen Z.out 1
 have zf2 := World.rowIs.frozen Z.out 2
 have zf3 := World.rowIs.frozen Z.out 3
 have zf4 := World.rowIs.frozen Z.out 4
 have O1 : OnlyB (w.heap.size + 2) v2 ((((v2.setCell ⟨w.heap.size + 2, 1, none⟩ (.int .i64 r.bc)).setCell ⟨w.heap.size + 2, 2, none⟩ (.int .i64 r.bt)).setCell ⟨w.heap.size + 2, 3, none⟩ (.int .i64 r.bg)).setCell ⟨w.heap.size + 2, 4, none⟩ (.int .i64 r.en)) := (((((OnlyB.refl (w.heap.size + 2) v2).setCell 1 _).setCell 2 _).setCell 3 _).setCell 4 _)
 replace Z : Hid (((((v2.setCell ⟨w.heap.size + 2, 1, none⟩ (.int .i64 r.bc)).setCell ⟨w.heap.size + 2, 2, none⟩ (.int .i64 r.bt)).setCell ⟨w.heap.size + 2, 3, none⟩ (.int .i64 r.bg)).setCell ⟨w.heap.size + 2, 4, none⟩ (.int .i64 r.en)).rowIs (w.heap.size + 2) 90 5 (fun j => if j = 0 then .slice (some ⟨g, 0, none⟩) r.ne r.ne else if j = 1 then .int .i64 r.bc else if j = 2 then .int .i64 r.bt else if j = 3 then .int .i64 r.bg else .int .i64 r.en)) := World.rowIs.congr (World.rowIs.set (World.rowIs.set (World.rowIs.set (World.rowIs.set Z.out 1 (.int .i64 r.bc)) 2 (.int .i64 r.bt)) 3 (.int .i64 r.bg)) 4 (.int .i64 r.en)) (fun j hj => by rcases (show j = 0 ∨ j = 1 ∨ j = 2 ∨ j = 3 ∨ j = 4 by omega) with rfl | rfl | rfl | rfl | rfl <;> rfl)
 replace X : Hid (((((v2.setCell ⟨w.heap.size + 2, 1, none⟩ (.int .i64 r.bc)).setCell ⟨w.heap.size + 2, 2, none⟩ (.int .i64 r.bt)).setCell ⟨w.heap.size + 2, 3, none⟩ (.int .i64 r.bg)).setCell ⟨w.heap.size + 2, 4, none⟩ (.int .i64 r.en)).rowIs w.heap.size 116 5 (roV r (.slice a r.ne c))) := World.rowIs.of_block X.out (O1.block _ (World.rowIs.lt X.out) (by omega))
 replace A1 : Hid (Below w.heap.size w ((((v2.setCell ⟨w.heap.size + 2, 1, none⟩ (.int .i64 r.bc)).setCell ⟨w.heap.size + 2, 2, none⟩ (.int .i64 r.bt)).setCell ⟨w.heap.size + 2, 3, none⟩ (.int .i64 r.bg)).setCell ⟨w.heap.size + 2, 4, none⟩ (.int .i64 r.en))) := A1.out.trans (O1.toBelow (by omega) A1.out.size)
 replace SZ : Hid (w.heap.size + 3 ≤ ((((v2.setCell ⟨w.heap.size + 2, 1, none⟩ (.int .i64 r.bc)).setCell ⟨w.heap.size + 2, 2, none⟩ (.int .i64 r.bt)).setCell ⟨w.heap.size + 2, 3, none⟩ (.int .i64 r.bg)).setCell ⟨w.heap.size + 2, 4, none⟩ (.int .i64 r.en)).heap.size) := Nat.le_trans SZ.out O1.size
 replace NR : Hid (((((v2.setCell ⟨w.heap.size + 2, 1, none⟩ (.int .i64 r.bc)).setCell ⟨w.heap.size + 2, 2, none⟩ (.int .i64 r.bt)).setCell ⟨w.heap.size + 2, 3, none⟩ (.int .i64 r.bg)).setCell ⟨w.heap.size + 2, 4, none⟩ (.int .i64 r.en)).rowIs g 3 r.ne (fun i => .int .i64 (r.E i))) := World.rowIs.of_block NR.out (O1.block _ (World.rowIs.lt NR.out) (by have := GE.out; omega))
 have y0 := World.rowIs.cell Y.out (i := 0) (by omega)
 have yf0 := World.rowIs.frozen Y.out 0
 have y1 := World.rowIs.cell Y.out (i := 1) (by omega)
 have yf1 := World.rowIs.frozen Y.out 1
 have y2 := World.rowIs.cell Y.out (i := 2) (by omega)
 have yf2 := World.rowIs.frozen Y.out 2
 have y3 := World.rowIs.cell Y.out (i := 3) (by omega)
 have yf3 := World.rowIs.frozen Y.out 3
 have y4 := World.rowIs.cell Y.out (i := 4) (by omega)
 have yf4 := World.rowIs.frozen Y.out 4
 simp at y0 y1 y2 y3 y4
 have O2 : OnlyB (w.heap.size + 1) ((((v2.setCell ⟨w.heap.size + 2, 1, none⟩ (.int .i64 r.bc)).setCell ⟨w.heap.size + 2, 2, none⟩ (.int .i64 r.bt)).setCell ⟨w.heap.size + 2, 3, none⟩ (.int .i64 r.bg)).setCell ⟨w.heap.size + 2, 4, none⟩ (.int .i64 r.en)) (((((((((v2.setCell ⟨w.heap.size + 2, 1, none⟩ (.int .i64 r.bc)).setCell ⟨w.heap.size + 2, 2, none⟩ (.int .i64 r.bt)).setCell ⟨w.heap.size + 2, 3, none⟩ (.int .i64 r.bg)).setCell ⟨w.heap.size + 2, 4, none⟩ (.int .i64 r.en)).setCell ⟨w.heap.size + 1, 0, none⟩ (.slice (some ⟨g, 0, none⟩) r.ne r.ne)).setCell ⟨w.heap.size + 1, 1, none⟩ (.int .i64 r.bc)).setCell ⟨w.heap.size + 1, 2, none⟩ (.int .i64 r.bt)).setCell ⟨w.heap.size + 1, 3, none⟩ (.int .i64 r.bg)).setCell ⟨w.heap.size + 1, 4, none⟩ (.int .i64 r.en)) := ((((((OnlyB.refl (w.heap.size + 1) ((((v2.setCell ⟨w.heap.size + 2, 1, none⟩ (.int .i64 r.bc)).setCell ⟨w.heap.size + 2, 2, none⟩ (.int .i64 r.bt)).setCell ⟨w.heap.size + 2, 3, none⟩ (.int .i64 r.bg)).setCell ⟨w.heap.size + 2, 4, none⟩ (.int .i64 r.en))).setCell 0 _).setCell 1 _).setCell 2 _).setCell 3 _).setCell 4 _)
 have Y5 : Hid ((((((((((v2.setCell ⟨w.heap.size + 2, 1, none⟩ (.int .i64 r.bc)).setCell ⟨w.heap.size + 2, 2, none⟩ (.int .i64 r.bt)).setCell ⟨w.heap.size + 2, 3, none⟩ (.int .i64 r.bg)).setCell ⟨w.heap.size + 2, 4, none⟩ (.int .i64 r.en)).setCell ⟨w.heap.size + 1, 0, none⟩ (.slice (some ⟨g, 0, none⟩) r.ne r.ne)).setCell ⟨w.heap.size + 1, 1, none⟩ (.int .i64 r.bc)).setCell ⟨w.heap.size + 1, 2, none⟩ (.int .i64 r.bt)).setCell ⟨w.heap.size + 1, 3, none⟩ (.int .i64 r.bg)).setCell ⟨w.heap.size + 1, 4, none⟩ (.int .i64 r.en)).rowIs (w.heap.size + 1) 90 5 (roV r (.slice (some ⟨g, 0, none⟩) r.ne r.ne))) := World.rowIs.congr (World.rowIs.set (World.rowIs.set (World.rowIs.set (World.rowIs.set (World.rowIs.set (World.rowIs.of_block Y.out (O1.block _ (World.rowIs.lt Y.out) (by omega))) 0 (.slice (some ⟨g, 0, none⟩) r.ne r.ne)) 1 (.int .i64 r.bc)) 2 (.int .i64 r.bt)) 3 (.int .i64 r.bg)) 4 (.int .i64 r.en)) (fun j hj => by rcases (show j = 0 ∨ j = 1 ∨ j = 2 ∨ j = 3 ∨ j = 4 by omega) with rfl | rfl | rfl | rfl | rfl <;> rfl)
 have R5 : Hid ((((((((((v2.setCell ⟨w.heap.size + 2, 1, none⟩ (.int .i64 r.bc)).setCell ⟨w.heap.size + 2, 2, none⟩ (.int .i64 r.bt)).setCell ⟨w.heap.size + 2, 3, none⟩ (.int .i64 r.bg)).setCell ⟨w.heap.size + 2, 4, none⟩ (.int .i64 r.en)).setCell ⟨w.heap.size + 1, 0, none⟩ (.slice (some ⟨g, 0, none⟩) r.ne r.ne)).setCell ⟨w.heap.size + 1, 1, none⟩ (.int .i64 r.bc)).setCell ⟨w.heap.size + 1, 2, none⟩ (.int .i64 r.bt)).setCell ⟨w.heap.size + 1, 3, none⟩ (.int .i64 r.bg)).setCell ⟨w.heap.size + 1, 4, none⟩ (.int .i64 r.en)).rowIs g 3 r.ne (fun i => .int .i64 (r.E i))) := World.rowIs.of_block NR.out (O2.block _ (World.rowIs.lt NR.out) (by have := GE.out; omega))
 have B5 : Hid (Below w.heap.size w (((((((((v2.setCell ⟨w.heap.size + 2, 1, none⟩ (.int .i64 r.bc)).setCell ⟨w.heap.size + 2, 2, none⟩ (.int .i64 r.bt)).setCell ⟨w.heap.size + 2, 3, none⟩ (.int .i64 r.bg)).setCell ⟨w.heap.size + 2, 4, none⟩ (.int .i64 r.en)).setCell ⟨w.heap.size + 1, 0, none⟩ (.slice (some ⟨g, 0, none⟩) r.ne r.ne)).setCell ⟨w.heap.size + 1, 1, none⟩ (.int .i64 r.bc)).setCell ⟨w.heap.size + 1, 2, none⟩ (.int .i64 r.bt)).setCell ⟨w.heap.size + 1, 3, none⟩ (.int .i64 r.bg)).setCell ⟨w.heap.size + 1, 4, none⟩ (.int .i64 r.en))) := A1.out.trans (O2.toBelow (by omega) A1.out.size)
 clear O1 O2 X Y Z NR A1 SZ TM TI HA
 go_wp2
 exact ret_cell (b := w.heap.size + 1) Try.results80 rfl (roLoad Y5.out rfl) ⟨⟨g, by have := GE.out; omega, rfl, R5.out⟩, B5.out⟩
end Go.Proofs.Ytedncfcmhaaobaa
