/-
  The reader of lines: its acts (the methods), callAct.
-/
import Derived.Test.YthebbijbedffpaaDoorRlM
import Derived.Test.YthebbijbedffpaaDoorRlB
import Derived.Deep.MidRow
namespace Go.Proofs.YthebbijbedffpaaDoor
open Go.ChangeShapes Go.WideShapes Go.ChangeAt Go.RowKit
set_option linter.unusedVariables false
theorem VaB.madeOf {w : World} {b : Nat} (k c : Int) (x : Cl) (hp : w.heap.size = b) : VaB (w.alloc (.cells #[.int .i64 k, .int .i64 0, .int .i64 c, .int .i64 x.k, .int .i64 x.a, .int .i64 x.n, .string x.p, .string x.o, .string x.d, .string ⟨#[]⟩, .slice none 0 0, .int .i64 0, .bool false, .bool false] 26)) b k c x := by
  subst hp
  exact World.rowIs_alloc w _ _ _ (fun i hi => by
    rcases (show i = 0 ∨ i = 1 ∨ i = 2 ∨ i = 3 ∨ i = 4 ∨ i = 5 ∨ i = 6 ∨ i = 7 ∨ i = 8 ∨ i = 9 ∨ i = 10 ∨ i = 11 ∨ i = 12 ∨ i = 13 by simp at hi; omega) with rfl | rfl | rfl | rfl | rfl | rfl | rfl | rfl | rfl | rfl | rfl | rfl | rfl | rfl <;> rfl)
theorem LnR.alloc {w : World} {q : Nat} {s : ByteArray} {o : Nat} {wr : Bool} (h : LnR w q s o wr) (ob : Obj) : LnR (w.alloc ob) q s o wr := Box2.ofBlock h (Below.heap_alloc w ob q h.lt)
theorem OnlyB.trans2 {b : Nat} {w w' w'' : World} (h : OnlyB b w w') (k : OnlyB b w' w'') : OnlyB b w w'' := ⟨k.os.trans h.os, k.tape.trans h.tape, k.output.trans h.output, Nat.le_trans h.size k.size, fun i hi hn => (k.block i (Nat.lt_of_lt_of_le hi h.size) hn).trans (h.block i hi hn)⟩
theorem OnlyB.allocR {b : Nat} {w w' : World} (h : OnlyB b w w') (ob : Obj) : OnlyB b w (w'.alloc ob) := h.below ((Below.refl _ _).alloc (Nat.le_refl _) _)
theorem ClB.set1 {w : World} {p : Nat} {x : Cl} (h : ClB w p x) (v : Int) : ClB (w.setCell ⟨p, 1, none⟩ (.int .i64 v)) p { x with a := v } := World.rowIs.congr (World.rowIs.set h 1 (.int .i64 v)) (fun i hi => by
  rcases (show i = 0 ∨ i = 1 ∨ i = 2 ∨ i = 3 ∨ i = 4 ∨ i = 5 by omega) with rfl | rfl | rfl | rfl | rfl | rfl <;> rfl)
theorem ClB.set2 {w : World} {p : Nat} {x : Cl} (h : ClB w p x) (v : Int) : ClB (w.setCell ⟨p, 2, none⟩ (.int .i64 v)) p { x with n := v } := World.rowIs.congr (World.rowIs.set h 2 (.int .i64 v)) (fun i hi => by
  rcases (show i = 0 ∨ i = 1 ∨ i = 2 ∨ i = 3 ∨ i = 4 ∨ i = 5 by omega) with rfl | rfl | rfl | rfl | rfl | rfl <;> rfl)
theorem ClB.set3 {w : World} {p : Nat} {x : Cl} (h : ClB w p x) (v : ByteArray) : ClB (w.setCell ⟨p, 3, none⟩ (.string v)) p { x with p := v } := World.rowIs.congr (World.rowIs.set h 3 (.string v)) (fun i hi => by
  rcases (show i = 0 ∨ i = 1 ∨ i = 2 ∨ i = 3 ∨ i = 4 ∨ i = 5 by omega) with rfl | rfl | rfl | rfl | rfl | rfl <;> rfl)
theorem ClB.set4 {w : World} {p : Nat} {x : Cl} (h : ClB w p x) (v : ByteArray) : ClB (w.setCell ⟨p, 4, none⟩ (.string v)) p { x with o := v } := World.rowIs.congr (World.rowIs.set h 4 (.string v)) (fun i hi => by
  rcases (show i = 0 ∨ i = 1 ∨ i = 2 ∨ i = 3 ∨ i = 4 ∨ i = 5 by omega) with rfl | rfl | rfl | rfl | rfl | rfl <;> rfl)
theorem ClB.set5 {w : World} {p : Nat} {x : Cl} (h : ClB w p x) (v : ByteArray) : ClB (w.setCell ⟨p, 5, none⟩ (.string v)) p { x with d := v } := World.rowIs.congr (World.rowIs.set h 5 (.string v)) (fun i hi => by
  rcases (show i = 0 ∨ i = 1 ∨ i = 2 ∨ i = 3 ∨ i = 4 ∨ i = 5 by omega) with rfl | rfl | rfl | rfl | rfl | rfl <;> rfl)
theorem Below.heap_setCells (w : World) (b i : Nat) (vs : List Value) (p : Nat) (hp : p ≠ b) : (w.setCells b i vs).heap[p]? = w.heap[p]? := by
  induction vs generalizing w i with
  | nil => rfl
  | cons v vs ih => rw [World.setCells, ih]; exact Below.heap_setCell w ⟨b, i, none⟩ v p (by dsimp only; omega)
theorem OnlyB.setsNew {q b : Nat} {w w' : World} (h : OnlyB q w w') (hb : w.heap.size ≤ b) (i : Nat) (vs : List Value) : OnlyB q w (w'.setCells b i vs) := by
  induction vs generalizing w' i with
  | nil => exact h
  | cons v vs ih => exact ih (h.setNewC hb i v) (i + 1)
set_option maxRecDepth 100000 in
set_option maxHeartbeats 4000000 in
theorem ln_mount (q : Nat) (w : World) :
    Calls Tryd.prog 12 #[.pointer (some ⟨q, 0, none⟩)] w fun e w' => e = .returned (vaV 1 0 clZ) ∧ Below w.heap.size w w' := by
  go_enter Tryd.func12, Tryd.ntmps12
  go_wp2
  exact ret_cell (b := w.heap.size) (v := vaV 1 0 clZ) Tryd.results12 rfl (VaB.madeOf 1 0 clZ rfl).load ⟨rfl, (Below.refl _ _).alloc (Nat.le_refl _) _⟩
set_option maxRecDepth 100000 in
set_option maxHeartbeats 4000000 in
theorem ln_sync (q : Nat) (w : World) :
    Calls Tryd.prog 13 #[.pointer (some ⟨q, 0, none⟩)] w fun e w' => e = .returned (vaV 3 0 clZ) ∧ Below w.heap.size w w' := by
  go_enter Tryd.func13, Tryd.ntmps13
  go_wp2
  exact ret_cell (b := w.heap.size) (v := vaV 3 0 clZ) Tryd.results13 rfl (VaB.madeOf 3 0 clZ rfl).load ⟨rfl, (Below.refl _ _).alloc (Nat.le_refl _) _⟩
set_option maxRecDepth 100000 in
set_option maxHeartbeats 4000000 in
theorem ln_crash (q : Nat) (w : World) :
    Calls Tryd.prog 14 #[.pointer (some ⟨q, 0, none⟩)] w fun e w' => e = .returned (vaV 3 1 clZ) ∧ Below w.heap.size w w' := by
  go_enter Tryd.func14, Tryd.ntmps14
  go_wp2
  exact ret_cell (b := w.heap.size) (v := vaV 3 1 clZ) Tryd.results14 rfl (VaB.madeOf 3 1 clZ rfl).load ⟨rfl, (Below.refl _ _).alloc (Nat.le_refl _) _⟩
set_option maxRecDepth 100000 in
set_option maxHeartbeats 4000000 in
theorem ln_unmount (q : Nat) (w : World) :
    Calls Tryd.prog 15 #[.pointer (some ⟨q, 0, none⟩)] w fun e w' => e = .returned (vaV 4 0 clZ) ∧ Below w.heap.size w w' := by
  go_enter Tryd.func15, Tryd.ntmps15
  go_wp2
  exact ret_cell (b := w.heap.size) (v := vaV 4 0 clZ) Tryd.results15 rfl (VaB.madeOf 4 0 clZ rfl).load ⟨rfl, (Below.refl _ _).alloc (Nat.le_refl _) _⟩
set_option maxRecDepth 100000 in
set_option maxHeartbeats 4000000 in
theorem ln_save (q : Nat) (w : World) :
    Calls Tryd.prog 16 #[.pointer (some ⟨q, 0, none⟩)] w fun e w' => e = .returned (vaV 5 0 clZ) ∧ Below w.heap.size w w' := by
  go_enter Tryd.func16, Tryd.ntmps16
  go_wp2
  exact ret_cell (b := w.heap.size) (v := vaV 5 0 clZ) Tryd.results16 rfl (VaB.madeOf 5 0 clZ rfl).load ⟨rfl, (Below.refl _ _).alloc (Nat.le_refl _) _⟩
set_option maxRecDepth 100000 in
set_option maxHeartbeats 4000000 in
theorem ln_rollback (q : Nat) (w : World) :
    Calls Tryd.prog 17 #[.pointer (some ⟨q, 0, none⟩)] w fun e w' => e = .returned (vaV 6 0 clZ) ∧ Below w.heap.size w w' := by
  go_enter Tryd.func17, Tryd.ntmps17
  go_wp2
  exact ret_cell (b := w.heap.size) (v := vaV 6 0 clZ) Tryd.results17 rfl (VaB.madeOf 6 0 clZ rfl).load ⟨rfl, (Below.refl _ _).alloc (Nat.le_refl _) _⟩
set_option maxRecDepth 100000 in
set_option maxHeartbeats 4000000 in
theorem callAct_any (x : Cl) (w : World) :
    Calls Tryd.prog 32 #[clA x] w fun e w' => e = .returned (vaV 2 0 x) ∧ Below w.heap.size w w' := by
  obtain ⟨xk, xa, xn, xp, xo, xd⟩ := x
  unfold clA
  go_enter Tryd.func32, Tryd.ntmps32
  go_wp2
  exact ret_cell (b := w.heap.size + 1) (v := vaV 2 0 ⟨xk, xa, xn, xp, xo, xd⟩) Tryd.results32 rfl (VaB.madeOf 2 0 ⟨xk, xa, xn, xp, xo, xd⟩ (by simp)).load ⟨rfl, ((Below.refl _ _).alloc (Nat.le_refl _) _).alloc (by simp) _⟩
set_option maxRecDepth 100000 in
set_option maxHeartbeats 4000000 in
theorem ln_mkdir (s : ByteArray) (hs : s.size ≤ 65536) (o : Nat) (wr : Bool) (q : Nat) (w : World) (h : LnR w q s o wr) :
    Calls Tryd.prog 18 #[.pointer (some ⟨q, 0, none⟩)] w fun e w' => e = .returned (vaV 2 0 ⟨1, 0, 0, wW s o, ⟨#[]⟩, ⟨#[]⟩⟩) ∧ LnR w' q s (wN s o) (wr || !hasW s o) ∧ OnlyB q w w' := by
  have hq := h.lt
  go_enter Tryd.func18, Tryd.ntmps18
  go_wp2_with fail
  refine (word_any s hs o wr q _ (LnR.alloc h _)).mono ?_
  rintro e w1 ⟨rfl, h1, o1⟩
  have V1 : Hid (VaB w1 w.heap.size 0 0 clZ) := (VaB.made rfl).onlyB o1 (by omega)
  have A1 : Hid (OnlyB q w w1) := (OnlyB.allocR (OnlyB.refl q w) _).trans2 o1
  clear o1
  go_wp2_with fail
  refine (callAct_any ⟨1, 0, 0, wW s o, ⟨#[]⟩, ⟨#[]⟩⟩ _).mono ?_
  rintro e w2 ⟨rfl, b2⟩
  have V2 : Hid (VaB w2 w.heap.size 0 0 clZ) := V1.out.below b2
  have A2 : Hid (OnlyB q w w2) := A1.out.below b2
  have h2 : LnR w2 q s (wN s o) (wr || !hasW s o) := Box2.below h1 b2
  clear b2 V1 A1 h1
  obtain ⟨v0, v1, v2, v3, v4, v5, v6, v7, v8, v9, v10, v11, v12, v13⟩ := V2.out.c
  have f0 := V2.out.fr
  unfold vaV
  go_wp2
  change bodyPost _ _ _ .ret _ (World.setCells w2 w.heap.size 0 (vaL 2 0 ⟨1, 0, 0, wW s o, ⟨#[]⟩, ⟨#[]⟩⟩))
  exact ret_cell (b := w.heap.size) (v := vaV 2 0 ⟨1, 0, 0, wW s o, ⟨#[]⟩, ⟨#[]⟩⟩) Tryd.results18 rfl (V2.out.st 2 0 ⟨1, 0, 0, wW s o, ⟨#[]⟩, ⟨#[]⟩⟩).load ⟨rfl, Box2.ofBlock h2 (Below.heap_setCells _ w.heap.size 0 (vaL 2 0 ⟨1, 0, 0, wW s o, ⟨#[]⟩, ⟨#[]⟩⟩) q (by omega)), A2.out.setsNew (Nat.le_refl _) 0 _⟩
set_option maxRecDepth 100000 in
set_option maxHeartbeats 4000000 in
theorem ln_read (s : ByteArray) (hs : s.size ≤ 65536) (o : Nat) (wr : Bool) (q : Nat) (w : World) (h : LnR w q s o wr) :
    Calls Tryd.prog 20 #[.pointer (some ⟨q, 0, none⟩)] w fun e w' => e = .returned (vaV 2 0 ⟨3, 0, 200, wW s o, ⟨#[]⟩, ⟨#[]⟩⟩) ∧ LnR w' q s (wN s o) (wr || !hasW s o) ∧ OnlyB q w w' := by
  have hq := h.lt
  go_enter Tryd.func20, Tryd.ntmps20
  go_wp2_with fail
  refine (word_any s hs o wr q _ (LnR.alloc h _)).mono ?_
  rintro e w1 ⟨rfl, h1, o1⟩
  have V1 : Hid (VaB w1 w.heap.size 0 0 clZ) := (VaB.made rfl).onlyB o1 (by omega)
  have A1 : Hid (OnlyB q w w1) := (OnlyB.allocR (OnlyB.refl q w) _).trans2 o1
  clear o1
  go_wp2_with fail
  refine (callAct_any ⟨3, 0, 200, wW s o, ⟨#[]⟩, ⟨#[]⟩⟩ _).mono ?_
  rintro e w2 ⟨rfl, b2⟩
  have V2 : Hid (VaB w2 w.heap.size 0 0 clZ) := V1.out.below b2
  have A2 : Hid (OnlyB q w w2) := A1.out.below b2
  have h2 : LnR w2 q s (wN s o) (wr || !hasW s o) := Box2.below h1 b2
  clear b2 V1 A1 h1
  obtain ⟨v0, v1, v2, v3, v4, v5, v6, v7, v8, v9, v10, v11, v12, v13⟩ := V2.out.c
  have f0 := V2.out.fr
  unfold vaV
  go_wp2
  change bodyPost _ _ _ .ret _ (World.setCells w2 w.heap.size 0 (vaL 2 0 ⟨3, 0, 200, wW s o, ⟨#[]⟩, ⟨#[]⟩⟩))
  exact ret_cell (b := w.heap.size) (v := vaV 2 0 ⟨3, 0, 200, wW s o, ⟨#[]⟩, ⟨#[]⟩⟩) Tryd.results20 rfl (V2.out.st 2 0 ⟨3, 0, 200, wW s o, ⟨#[]⟩, ⟨#[]⟩⟩).load ⟨rfl, Box2.ofBlock h2 (Below.heap_setCells _ w.heap.size 0 (vaL 2 0 ⟨3, 0, 200, wW s o, ⟨#[]⟩, ⟨#[]⟩⟩) q (by omega)), A2.out.setsNew (Nat.le_refl _) 0 _⟩
set_option maxRecDepth 100000 in
set_option maxHeartbeats 4000000 in
theorem ln_remove (s : ByteArray) (hs : s.size ≤ 65536) (o : Nat) (wr : Bool) (q : Nat) (w : World) (h : LnR w q s o wr) :
    Calls Tryd.prog 23 #[.pointer (some ⟨q, 0, none⟩)] w fun e w' => e = .returned (vaV 2 0 ⟨6, 0, 0, wW s o, ⟨#[]⟩, ⟨#[]⟩⟩) ∧ LnR w' q s (wN s o) (wr || !hasW s o) ∧ OnlyB q w w' := by
  have hq := h.lt
  go_enter Tryd.func23, Tryd.ntmps23
  go_wp2_with fail
  refine (word_any s hs o wr q _ (LnR.alloc h _)).mono ?_
  rintro e w1 ⟨rfl, h1, o1⟩
  have V1 : Hid (VaB w1 w.heap.size 0 0 clZ) := (VaB.made rfl).onlyB o1 (by omega)
  have A1 : Hid (OnlyB q w w1) := (OnlyB.allocR (OnlyB.refl q w) _).trans2 o1
  clear o1
  go_wp2_with fail
  refine (callAct_any ⟨6, 0, 0, wW s o, ⟨#[]⟩, ⟨#[]⟩⟩ _).mono ?_
  rintro e w2 ⟨rfl, b2⟩
  have V2 : Hid (VaB w2 w.heap.size 0 0 clZ) := V1.out.below b2
  have A2 : Hid (OnlyB q w w2) := A1.out.below b2
  have h2 : LnR w2 q s (wN s o) (wr || !hasW s o) := Box2.below h1 b2
  clear b2 V1 A1 h1
  obtain ⟨v0, v1, v2, v3, v4, v5, v6, v7, v8, v9, v10, v11, v12, v13⟩ := V2.out.c
  have f0 := V2.out.fr
  unfold vaV
  go_wp2
  change bodyPost _ _ _ .ret _ (World.setCells w2 w.heap.size 0 (vaL 2 0 ⟨6, 0, 0, wW s o, ⟨#[]⟩, ⟨#[]⟩⟩))
  exact ret_cell (b := w.heap.size) (v := vaV 2 0 ⟨6, 0, 0, wW s o, ⟨#[]⟩, ⟨#[]⟩⟩) Tryd.results23 rfl (V2.out.st 2 0 ⟨6, 0, 0, wW s o, ⟨#[]⟩, ⟨#[]⟩⟩).load ⟨rfl, Box2.ofBlock h2 (Below.heap_setCells _ w.heap.size 0 (vaL 2 0 ⟨6, 0, 0, wW s o, ⟨#[]⟩, ⟨#[]⟩⟩) q (by omega)), A2.out.setsNew (Nat.le_refl _) 0 _⟩
set_option maxRecDepth 100000 in
set_option maxHeartbeats 4000000 in
theorem ln_cut (s : ByteArray) (hs : s.size ≤ 65536) (o : Nat) (wr : Bool) (q B : Nat) (hB : B ≤ q) (w : World) (h : LnR w q s o wr) (hE : EnvN B w) :
    Calls Tryd.prog 21 #[.pointer (some ⟨q, 0, none⟩)] w fun e w' => ∃ n : Int, e = .returned (vaV 2 0 ⟨4, 0, n, wW s o, ⟨#[]⟩, ⟨#[]⟩⟩) ∧ (∀ v, numL (wW s (wN s o)).data.toList = some v → n = v) ∧ LnR w' q s (wN s (wN s o)) ((wr || !hasW s o) || (numL (wW s (wN s o)).data.toList).isNone) ∧ OnlyB q w w' := by
  have hq := h.lt
  have HE : Hid (EnvN B w) := hE
  go_enter Tryd.func21, Tryd.ntmps21
  go_wp2_with fail
  refine (word_any s hs o wr q _ (LnR.alloc h _)).mono ?_
  rintro e w1 ⟨rfl, h1, o1⟩
  have V1 : Hid (VaB w1 w.heap.size 0 0 clZ) := (VaB.made rfl).onlyB o1 (by omega)
  have A1 : Hid (OnlyB q w w1) := (OnlyB.allocR (OnlyB.refl q w) _).trans2 o1
  clear o1
  have P1 : Hid (w.heap.size < w1.heap.size) := (A1.out.trans2 (OnlyB.refl q w1)).size |> fun _ => V1.out.lt
  have p1 := P1.out
  go_wp2_with fail
  refine (number_any s hs (wN s o) (wr || !hasW s o) q B hB _ (LnR.alloc h1 _) (HE.out.on ((OnlyB.allocR A1.out _).toBelow hB (by omega)))).mono ?_
  rintro e w2 ⟨n, rfl, hn, h2, o2⟩
  have V2 : Hid (VaB w2 w.heap.size 0 0 clZ) := (VaB.below V1.out ((Below.refl _ _).alloc (Nat.le_refl _) _)).onlyB o2 (by omega)
  have A2 : Hid (OnlyB q w w2) := (OnlyB.allocR A1.out _).trans2 o2
  have C2 : Hid (ClB w2 w1.heap.size ⟨4, 0, 0, wW s o, ⟨#[]⟩, ⟨#[]⟩⟩) := (ClB.madeOf (x := ⟨4, 0, 0, wW s o, ⟨#[]⟩, ⟨#[]⟩⟩) rfl).onlyB o2 (by omega)
  clear o2 V1 A1
  obtain ⟨c0, c1, c2, c3, c4, c5⟩ := C2.out.c
  have g0 := C2.out.fr
  go_wp2_with fail
  clear c0 c1 c2 c3 c4 c5 g0
  refine (callAct_any ⟨4, 0, n, wW s o, ⟨#[]⟩, ⟨#[]⟩⟩ _).mono ?_
  rintro e w3 ⟨rfl, b3⟩
  have V3 : Hid (VaB w3 w.heap.size 0 0 clZ) := (VaB.ofBlock V2.out (Below.heap_setCell _ ⟨w1.heap.size, 2, none⟩ _ w.heap.size (by dsimp only; omega))).below b3
  have A3 : Hid (OnlyB q w w3) := (OnlyB.setNewC A2.out (Nat.le_of_lt P1.out) 2 _).below b3
  have h3 : LnR w3 q s (wN s (wN s o)) ((wr || !hasW s o) || (numL (wW s (wN s o)).data.toList).isNone) := Box2.below (Box2.ofBlock h2 (Below.heap_setCell _ ⟨w1.heap.size, 2, none⟩ _ q (by dsimp only; omega))) b3
  clear b3 V2 A2 h2
  obtain ⟨v0, v1, v2, v3, v4, v5, v6, v7, v8, v9, v10, v11, v12, v13⟩ := V3.out.c
  have f0 := V3.out.fr
  unfold vaV
  go_wp2
  change bodyPost _ _ _ .ret _ (World.setCells w3 w.heap.size 0 (vaL 2 0 ⟨4, 0, n, wW s o, ⟨#[]⟩, ⟨#[]⟩⟩))
  exact ret_cell (b := w.heap.size) (v := vaV 2 0 ⟨4, 0, n, wW s o, ⟨#[]⟩, ⟨#[]⟩⟩) Tryd.results21 rfl (V3.out.st 2 0 ⟨4, 0, n, wW s o, ⟨#[]⟩, ⟨#[]⟩⟩).load ⟨n, rfl, hn, Box2.ofBlock h3 (Below.heap_setCells _ w.heap.size 0 (vaL 2 0 ⟨4, 0, n, wW s o, ⟨#[]⟩, ⟨#[]⟩⟩) q (by omega)), A3.out.setsNew (Nat.le_refl _) 0 _⟩
set_option maxRecDepth 100000 in
set_option maxHeartbeats 4000000 in
theorem ln_move (s : ByteArray) (hs : s.size ≤ 65536) (o : Nat) (wr : Bool) (q : Nat) (w : World) (h : LnR w q s o wr) :
    Calls Tryd.prog 22 #[.pointer (some ⟨q, 0, none⟩)] w fun e w' => e = .returned (vaV 2 0 ⟨5, 0, 0, wW s o, wW s (wN s o), ⟨#[]⟩⟩) ∧ LnR w' q s (wN s (wN s o)) ((wr || !hasW s o) || !hasW s (wN s o)) ∧ OnlyB q w w' := by
  have hq := h.lt
  go_enter Tryd.func22, Tryd.ntmps22
  go_wp2_with fail
  refine (word_any s hs o wr q _ (LnR.alloc h _)).mono ?_
  rintro e w1 ⟨rfl, h1, o1⟩
  have V1 : Hid (VaB w1 w.heap.size 0 0 clZ) := (VaB.made rfl).onlyB o1 (by omega)
  have A1 : Hid (OnlyB q w w1) := (OnlyB.allocR (OnlyB.refl q w) _).trans2 o1
  clear o1
  have P1 : Hid (w.heap.size < w1.heap.size) := (A1.out.trans2 (OnlyB.refl q w1)).size |> fun _ => V1.out.lt
  have p1 := P1.out
  go_wp2_with fail
  refine (word_any s hs (wN s o) (wr || !hasW s o) q _ (LnR.alloc h1 _)).mono ?_
  rintro e w2 ⟨rfl, h2, o2⟩
  have V2 : Hid (VaB w2 w.heap.size 0 0 clZ) := (VaB.below V1.out ((Below.refl _ _).alloc (Nat.le_refl _) _)).onlyB o2 (by omega)
  have A2 : Hid (OnlyB q w w2) := (OnlyB.allocR A1.out _).trans2 o2
  have C2 : Hid (ClB w2 w1.heap.size ⟨5, 0, 0, wW s o, ⟨#[]⟩, ⟨#[]⟩⟩) := (ClB.madeOf (x := ⟨5, 0, 0, wW s o, ⟨#[]⟩, ⟨#[]⟩⟩) rfl).onlyB o2 (by omega)
  clear o2 V1 A1
  obtain ⟨c0, c1, c2, c3, c4, c5⟩ := C2.out.c
  have g0 := C2.out.fr
  go_wp2_with fail
  clear c0 c1 c2 c3 c4 c5 g0
  refine (callAct_any ⟨5, 0, 0, wW s o, wW s (wN s o), ⟨#[]⟩⟩ _).mono ?_
  rintro e w3 ⟨rfl, b3⟩
  have V3 : Hid (VaB w3 w.heap.size 0 0 clZ) := (VaB.ofBlock V2.out (Below.heap_setCell _ ⟨w1.heap.size, 4, none⟩ _ w.heap.size (by dsimp only; omega))).below b3
  have A3 : Hid (OnlyB q w w3) := (OnlyB.setNewC A2.out (Nat.le_of_lt P1.out) 4 _).below b3
  have h3 : LnR w3 q s (wN s (wN s o)) ((wr || !hasW s o) || !hasW s (wN s o)) := Box2.below (Box2.ofBlock h2 (Below.heap_setCell _ ⟨w1.heap.size, 4, none⟩ _ q (by dsimp only; omega))) b3
  clear b3 V2 A2 h2
  obtain ⟨v0, v1, v2, v3, v4, v5, v6, v7, v8, v9, v10, v11, v12, v13⟩ := V3.out.c
  have f0 := V3.out.fr
  unfold vaV
  go_wp2
  change bodyPost _ _ _ .ret _ (World.setCells w3 w.heap.size 0 (vaL 2 0 ⟨5, 0, 0, wW s o, wW s (wN s o), ⟨#[]⟩⟩))
  exact ret_cell (b := w.heap.size) (v := vaV 2 0 ⟨5, 0, 0, wW s o, wW s (wN s o), ⟨#[]⟩⟩) Tryd.results22 rfl (V3.out.st 2 0 ⟨5, 0, 0, wW s o, wW s (wN s o), ⟨#[]⟩⟩).load ⟨rfl, Box2.ofBlock h3 (Below.heap_setCells _ w.heap.size 0 (vaL 2 0 ⟨5, 0, 0, wW s o, wW s (wN s o), ⟨#[]⟩⟩) q (by omega)), A3.out.setsNew (Nat.le_refl _) 0 _⟩
set_option maxRecDepth 100000 in
set_option maxHeartbeats 4000000 in
theorem ln_write (s : ByteArray) (hs : s.size ≤ 65536) (o : Nat) (wr : Bool) (q B : Nat) (hB : B ≤ q) (w : World) (h : LnR w q s o wr) (hE : EnvN B w) :
    Calls Tryd.prog 19 #[.pointer (some ⟨q, 0, none⟩)] w fun e w' => ∃ n : Int, e = .returned (vaV 2 0 ⟨2, n, 0, wW s o, ⟨#[]⟩, tX s (wN s (wN s o))⟩) ∧ (∀ v, numL (wW s (wN s o)).data.toList = some v → n = v) ∧ LnR w' q s s.size ((wr || !hasW s o) || (numL (wW s (wN s o)).data.toList).isNone) ∧ OnlyB q w w' := by
  have hq := h.lt
  have HE : Hid (EnvN B w) := hE
  go_enter Tryd.func19, Tryd.ntmps19
  go_wp2_with fail
  refine (word_any s hs o wr q _ (LnR.alloc h _)).mono ?_
  rintro e w1 ⟨rfl, h1, o1⟩
  have V1 : Hid (VaB w1 w.heap.size 0 0 clZ) := (VaB.made rfl).onlyB o1 (by omega)
  have A1 : Hid (OnlyB q w w1) := (OnlyB.allocR (OnlyB.refl q w) _).trans2 o1
  clear o1
  have P1 : Hid (w.heap.size < w1.heap.size) := (A1.out.trans2 (OnlyB.refl q w1)).size |> fun _ => V1.out.lt
  have p1 := P1.out
  go_wp2_with fail
  refine (number_any s hs (wN s o) (wr || !hasW s o) q B hB _ (LnR.alloc h1 _) (HE.out.on ((OnlyB.allocR A1.out _).toBelow hB (by omega)))).mono ?_
  rintro e w2 ⟨n, rfl, hn, h2, o2⟩
  have V2 : Hid (VaB w2 w.heap.size 0 0 clZ) := (VaB.below V1.out ((Below.refl _ _).alloc (Nat.le_refl _) _)).onlyB o2 (by omega)
  have A2 : Hid (OnlyB q w w2) := (OnlyB.allocR A1.out _).trans2 o2
  have C2 : Hid (ClB w2 w1.heap.size ⟨2, 0, 0, wW s o, ⟨#[]⟩, ⟨#[]⟩⟩) := (ClB.madeOf (x := ⟨2, 0, 0, wW s o, ⟨#[]⟩, ⟨#[]⟩⟩) rfl).onlyB o2 (by omega)
  clear o2 V1 A1
  obtain ⟨c0, c1, c2, c3, c4, c5⟩ := C2.out.c
  have g0 := C2.out.fr
  go_wp2_with fail
  clear c0 c1 c2 c3 c4 c5 g0
  refine (text_any s hs (wN s (wN s o)) ((wr || !hasW s o) || (numL (wW s (wN s o)).data.toList).isNone) q _ (Box2.ofBlock h2 (Below.heap_setCell _ ⟨w1.heap.size, 1, none⟩ _ q (by dsimp only; omega)))).mono ?_
  rintro e w3 ⟨rfl, h3, o3⟩
  have V3 : Hid (VaB w3 w.heap.size 0 0 clZ) := (VaB.ofBlock V2.out (Below.heap_setCell _ ⟨w1.heap.size, 1, none⟩ _ w.heap.size (by dsimp only; omega))).onlyB o3 (by omega)
  have A3 : Hid (OnlyB q w w3) := (OnlyB.setNewC A2.out (Nat.le_of_lt P1.out) 1 _).trans2 o3
  have C3 : Hid (ClB w3 w1.heap.size ⟨2, n, 0, wW s o, ⟨#[]⟩, ⟨#[]⟩⟩) := (ClB.set1 C2.out _).onlyB o3 (by omega)
  clear o3 V2 A2 C2
  obtain ⟨c0, c1, c2, c3, c4, c5⟩ := C3.out.c
  have g0 := C3.out.fr
  go_wp2_with fail
  clear c0 c1 c2 c3 c4 c5 g0
  refine (callAct_any ⟨2, n, 0, wW s o, ⟨#[]⟩, tX s (wN s (wN s o))⟩ _).mono ?_
  rintro e w4 ⟨rfl, b4⟩
  have V4 : Hid (VaB w4 w.heap.size 0 0 clZ) := (VaB.ofBlock V3.out (Below.heap_setCell _ ⟨w1.heap.size, 5, none⟩ _ w.heap.size (by dsimp only; omega))).below b4
  have A4 : Hid (OnlyB q w w4) := (OnlyB.setNewC A3.out (Nat.le_of_lt P1.out) 5 _).below b4
  have h4 : LnR w4 q s s.size ((wr || !hasW s o) || (numL (wW s (wN s o)).data.toList).isNone) := Box2.below (Box2.ofBlock h3 (Below.heap_setCell _ ⟨w1.heap.size, 5, none⟩ _ q (by dsimp only; omega))) b4
  clear b4 V3 A3 h3
  obtain ⟨v0, v1, v2, v3, v4, v5, v6, v7, v8, v9, v10, v11, v12, v13⟩ := V4.out.c
  have f0 := V4.out.fr
  unfold vaV
  go_wp2
  change bodyPost _ _ _ .ret _ (World.setCells w4 w.heap.size 0 (vaL 2 0 ⟨2, n, 0, wW s o, ⟨#[]⟩, tX s (wN s (wN s o))⟩))
  exact ret_cell (b := w.heap.size) (v := vaV 2 0 ⟨2, n, 0, wW s o, ⟨#[]⟩, tX s (wN s (wN s o))⟩) Tryd.results19 rfl (V4.out.st 2 0 ⟨2, n, 0, wW s o, ⟨#[]⟩, tX s (wN s (wN s o))⟩).load ⟨n, rfl, hn, Box2.ofBlock h4 (Below.heap_setCells _ w.heap.size 0 (vaL 2 0 ⟨2, n, 0, wW s o, ⟨#[]⟩, tX s (wN s (wN s o))⟩) q (by omega)), A4.out.setsNew (Nat.le_refl _) 0 _⟩
set_option maxRecDepth 100000 in
set_option maxHeartbeats 4000000 in
theorem ln_list (s : ByteArray) (hs : s.size ≤ 65536) (o : Nat) (wr : Bool) (q : Nat) (w : World) (h : LnR w q s o wr) :
    Calls Tryd.prog 24 #[.pointer (some ⟨q, 0, none⟩)] w fun e w' => e = .returned (vaV 2 0 ⟨7, 0, 0, wW s o, ⟨#[]⟩, ⟨#[]⟩⟩) ∧ LnR w' q s (cond (hasW s o) (wN s o) o) wr ∧ OnlyB q w w' := by
  have hq := h.lt
  go_enter Tryd.func24, Tryd.ntmps24
  go_wp2_with fail
  refine (hasWord_any s hs o wr q _ ((h.alloc _).alloc _)).mono ?_
  rintro e w1 ⟨rfl, hh, b1⟩
  clear hh
  have V1 : Hid (VaB w1 w.heap.size 0 0 clZ) := ((VaB.made rfl).below ((Below.refl _ _).alloc (Nat.le_refl _) _)).below b1
  have A1 : Hid (OnlyB q w w1) := (((OnlyB.refl q w).allocR _).allocR _).below b1
  have C1 : Hid (ClB w1 (w.heap.size + 1) ⟨7, 0, 0, ⟨#[]⟩, ⟨#[]⟩, ⟨#[]⟩⟩) := (ClB.madeOf (x := ⟨7, 0, 0, ⟨#[]⟩, ⟨#[]⟩, ⟨#[]⟩⟩) (by simp)).below b1
  have h1 : LnR w1 q s o wr := Box2.below ((h.alloc _).alloc _) b1
  clear b1
  cases hw : hasW s o with
  | false =>
    have hp0 := wW_out hw
    obtain ⟨c0, c1, c2, c3, c4, c5⟩ := C1.out.c
    have g0 := C1.out.fr
    go_wp2_with fail
    clear c0 c1 c2 c3 c4 c5 g0
    refine (callAct_any ⟨7, 0, 0, ⟨#[]⟩, ⟨#[]⟩, ⟨#[]⟩⟩ _).mono ?_
    rintro e w2 ⟨rfl, b2⟩
    have V2 : Hid (VaB w2 w.heap.size 0 0 clZ) := V1.out.below b2
    have A2 : Hid (OnlyB q w w2) := A1.out.below b2
    have h2 : LnR w2 q s o wr := Box2.below h1 b2
    clear b2 V1 A1 h1 C1
    obtain ⟨v0, v1, v2, v3, v4, v5, v6, v7, v8, v9, v10, v11, v12, v13⟩ := V2.out.c
    have f0 := V2.out.fr
    unfold vaV
    go_wp2
    change bodyPost _ _ _ .ret _ (World.setCells w2 w.heap.size 0 (vaL 2 0 ⟨7, 0, 0, ⟨#[]⟩, ⟨#[]⟩, ⟨#[]⟩⟩))
    refine ret_cell (b := w.heap.size) (v := vaV 2 0 ⟨7, 0, 0, ⟨#[]⟩, ⟨#[]⟩, ⟨#[]⟩⟩) Tryd.results24 rfl (V2.out.st 2 0 ⟨7, 0, 0, ⟨#[]⟩, ⟨#[]⟩, ⟨#[]⟩⟩).load ⟨by rw [hp0], ?_, A2.out.setsNew (Nat.le_refl _) 0 _⟩
    rw [hw]
    exact Box2.ofBlock h2 (Below.heap_setCells _ w.heap.size 0 (vaL 2 0 ⟨7, 0, 0, ⟨#[]⟩, ⟨#[]⟩, ⟨#[]⟩⟩) q (by omega))
  | true =>
    go_wp2_with fail
    refine (word_any s hs o wr q _ h1).mono ?_
    rintro e w2 ⟨rfl, h2, o2⟩
    have V2 : Hid (VaB w2 w.heap.size 0 0 clZ) := V1.out.onlyB o2 (by omega)
    have A2 : Hid (OnlyB q w w2) := A1.out.trans2 o2
    have C2 : Hid (ClB w2 (w.heap.size + 1) ⟨7, 0, 0, ⟨#[]⟩, ⟨#[]⟩, ⟨#[]⟩⟩) := C1.out.onlyB o2 (by omega)
    rw [hw, show (wr || !true) = wr by cases wr <;> rfl] at h2
    clear V1 A1 h1 C1 o2
    obtain ⟨c0, c1, c2, c3, c4, c5⟩ := C2.out.c
    have g0 := C2.out.fr
    go_wp2_with fail
    clear c0 c1 c2 c3 c4 c5 g0
    refine (callAct_any ⟨7, 0, 0, wW s o, ⟨#[]⟩, ⟨#[]⟩⟩ _).mono ?_
    rintro e w3 ⟨rfl, b3⟩
    have V3 : Hid (VaB w3 w.heap.size 0 0 clZ) := (V2.out.ofBlock (Below.heap_setCell _ ⟨w.heap.size + 1, 3, none⟩ _ w.heap.size (by dsimp only; omega))).below b3
    have A3 : Hid (OnlyB q w w3) := (OnlyB.setNewC A2.out (Nat.le_succ _) 3 _).below b3
    have h3 : LnR w3 q s (wN s o) wr := Box2.below (Box2.ofBlock h2 (Below.heap_setCell _ ⟨w.heap.size + 1, 3, none⟩ _ q (by dsimp only; omega))) b3
    clear b3 V2 A2 h2 C2
    obtain ⟨v0, v1, v2, v3, v4, v5, v6, v7, v8, v9, v10, v11, v12, v13⟩ := V3.out.c
    have f0 := V3.out.fr
    unfold vaV
    go_wp2
    change bodyPost _ _ _ .ret _ (World.setCells w3 w.heap.size 0 (vaL 2 0 ⟨7, 0, 0, wW s o, ⟨#[]⟩, ⟨#[]⟩⟩))
    refine ret_cell (b := w.heap.size) (v := vaV 2 0 ⟨7, 0, 0, wW s o, ⟨#[]⟩, ⟨#[]⟩⟩) Tryd.results24 rfl (V3.out.st 2 0 ⟨7, 0, 0, wW s o, ⟨#[]⟩, ⟨#[]⟩⟩).load ⟨rfl, ?_, A3.out.setsNew (Nat.le_refl _) 0 _⟩
    rw [hw]
    exact Box2.ofBlock h3 (Below.heap_setCells _ w.heap.size 0 (vaL 2 0 ⟨7, 0, 0, wW s o, ⟨#[]⟩, ⟨#[]⟩⟩) q (by omega))
end Go.Proofs.YthebbijbedffpaaDoor
