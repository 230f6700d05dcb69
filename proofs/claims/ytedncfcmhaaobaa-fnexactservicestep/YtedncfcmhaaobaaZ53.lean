/-
  Texts of the proof, joined: SvcK, SvcKs.
-/
import Derived.Test.YtedncfcmhaaobaaZ18
namespace Go.Proofs.Ytedncfcmhaaobaa
open Go.ChangeShapes Go.WideShapes Go.ChangeAt Go.RowKit
set_option linter.unusedVariables false
set_option linter.unusedSimpArgs false
structure MidK (B S : Nat) (w w' : World) : Prop where
 os : w'.os = w.os
 tape : w'.tape = w.tape
 output : w'.output = w.output
 size : w.heap.size ≤ w'.heap.size
 block : ∀ k, k < w.heap.size → (k < B ∨ S ≤ k) → w'.heap[k]? = w.heap[k]?
theorem MidK.refl (B S : Nat) (w : World) : MidK B S w w := ⟨rfl, rfl, rfl, Nat.le_refl _, fun _ _ _ => rfl⟩
theorem MidK.trans {B S : Nat} {w w' w'' : World} (h : MidK B S w w') (k : MidK B S w' w'') : MidK B S w w'' :=
 ⟨k.os.trans h.os, k.tape.trans h.tape, k.output.trans h.output, Nat.le_trans h.size k.size, fun b h1 h2 => (k.block b (Nat.lt_of_lt_of_le h1 h.size) h2).trans (h.block b h1 h2)⟩
theorem MidK.ofB {B S g : Nat} {w w' : World} (h : OnlyB g w w') (h1 : B ≤ g) (h2 : g < S) : MidK B S w w' := ⟨h.os, h.tape, h.output, h.size, fun k hk hd => h.block k hk (by omega)⟩
theorem MidK.set {B S g : Nat} {w w' : World} (h : MidK B S w w') (h1 : B ≤ g) (h2 : g < S) (i : Nat) (v : Value) : MidK B S w (w'.setCell ⟨g, i, none⟩ v) := h.trans (MidK.ofB ((OnlyB.refl g w').setCell i v) h1 h2)
theorem MidK.toBelow {B S : Nat} {w w' : World} (h : MidK B S w w') (hB : B ≤ w.heap.size) : Below B w w' := ⟨h.os, h.tape, h.output, h.size, fun k hk => h.block k (by omega) (.inl hk)⟩
theorem rowIs_len {w : World} {b : Nat} {t : TypeId} {n m : Nat} {f g : Nat → Value} (h : w.rowIs b t n f) (h' : w.rowIs b t m g) : n = m := by
 obtain ⟨c, h1, h2, _⟩ := h
 obtain ⟨c', k1, k2, _⟩ := h'
 rw [h1] at k1
 cases k1
 omega
def NumsI (w : World) (n : Nat) (V ne : Nat → Nat) : Prop := ∀ i, i < n → ∃ C : Nat → Int, w.rowIs (V i) 3 (ne i) (fun j => .int .i64 (C j))
theorem NumsI.turn {w w' : World} {n : Nat} {V ne : Nat → Nat} (h : NumsI w n V ne) {k : Nat} (hk : k < n) {C : Nat → Int} (hr : w'.rowIs (V k) 3 (ne k) (fun j => .int .i64 (C j))) (ho : OnlyB (V k) w w') : NumsI w' n V ne := fun i hi => by
 obtain ⟨E, hE⟩ := h i hi
 by_cases e : V i = V k
 ·obtain ⟨G, hG⟩ := h k hk
  have := rowIs_len (by rw [← e] at hG; exact hG) hE
  refine ⟨C, ?_⟩
  rw [e, ← this]
  exact hr
 ·exact ⟨E, hE.of_block (ho.block _ hE.lt e)⟩
theorem NumsI.set {w : World} {n : Nat} {V ne : Nat → Nat} (h : NumsI w n V ne) {g : Nat} (hg : ∀ i, i < n → g < V i) (i : Nat) (v : Value) : NumsI (w.setCell ⟨g, i, none⟩ v) n V ne := fun j hj => by
 obtain ⟨C, hC⟩ := h j hj
 exact ⟨C, hC.setOther (by have := hg j hj; show V j ≠ g; omega) v⟩
set_option maxRecDepth 100000 in
set_option maxHeartbeats 1000000 in
theorem markInt_any (V m c x : Nat) (C : Nat → Int) (hx : x ≤ 10000000000000) (hm : m ≤ 1048576) (w : World) (h : w.rowIs V 3 m (fun i => .int .i64 (C i))) :
  Calls Try.prog 23 #[.slice (some ⟨V, 0, none⟩) m c, .int .i64 (x : Int)] w fun e w' => e = .returned (.int .i64 ((x + m : Nat) : Int)) ∧ (∃ E : Nat → Int, w'.rowIs V 3 m (fun i => .int .i64 (E i))) ∧ OnlyB V w w' := by
 have H : Hid (w.rowIs V 3 m (fun i => .int .i64 (C i))) := h
 clear h
 go_enter Try.func23, Try.ntmps23
 go_wp2
 go_loopw [1, 5] (fun y i wr => ∃ (j : Nat) (E : Nat → Int), j ≤ m ∧ i = .int .i64 (j : Int) ∧ y = .int .i64 ((x + j : Nat) : Int) ∧ wr.rowIs V 3 m (fun i => .int .i64 (E i)) ∧ OnlyB V w wr) (fun _ i _ => m - (intOf i).toNat)
 case atStart => exact ⟨0, C, by omega, rfl, rfl, H.out, OnlyB.refl _ _⟩
 case round =>
  obtain ⟨j, E, hj, rfl, rfl, hr, ht⟩ := hrel
  by_cases hlt : j < m
  ·have t0 := hr.cell hlt
   have t1 := hr.frozen j
   have R2 : Hid ((wr.setCell ⟨V, j, none⟩ (.int .i64 ((x + j : Nat) : Int))).rowIs V 3 m (fun i => .int .i64 (if i = j then ((x + j : Nat) : Int) else E i))) := (hr.set j (.int .i64 ((x + j : Nat) : Int))).congr (fun i hi => by by_cases e : i = j <;> simp [e])
   have T2 : Hid (OnlyB V w (wr.setCell ⟨V, j, none⟩ (.int .i64 ((x + j : Nat) : Int)))) := ht.setCell j _
   have hw : IntKind.i64.wrap (((x + j : Nat) : Int) + 1) = ((x + j : Nat) : Int) + 1 := IntWalk.i64_in _ (by omega)
   clear hr ht
   go_wp2
   go_roundw
   case rel => exact ⟨j + 1, _, by omega, by go_num, by go_num, R2.out, T2.out⟩
   case measure => simp [intOf]; omega
  ·obtain rfl : j = m := by omega
   have R2 : Hid (∃ E : Nat → Int, wr.rowIs V 3 j (fun i => .int .i64 (E i))) := ⟨E, hr⟩
   have T2 : Hid (OnlyB V w wr) := ht
   clear hr ht
   go_wp2
   go_ret
   exact ⟨rfl, R2.out, T2.out⟩
set_option maxRecDepth 100000 in
set_option maxHeartbeats 4000000 in
theorem markReplicaS_any (B S g n c K : Nat) (V ne : Nat → Nat) (F : Nat → Nat → Value) (hn : n ≤ 1048576) (hK : K ≤ 4000000000000) (h0 : B ≤ g ∧ g < S) (hV : ∀ i, i < n → g < V i ∧ V i < S) (hne : ∀ i, i < n → ne i ≤ 1048576) (hF : ∀ i, i < n → F i 5 = .slice (some ⟨V i, 0, none⟩) (ne i) (ne i)) (w : World) (h : RowE w 8 (some ⟨g, 0, none⟩) g n F) (hN : NumsI w n V ne) :
  Calls Try.prog 43 #[.slice (some ⟨g, 0, none⟩) n c, .int .i64 (K : Int)] w fun e w' => (∃ k : Nat, e = .returned (.int .i64 (k : Int)) ∧ k ≤ K + n * 1048584) ∧ MidK B S w w' := by
 have H0 : Hid (RowE w 8 (some ⟨g, 0, none⟩) g n F) := h
 have HN : Hid (NumsI w n V ne) := hN
 have HF : Hid (∀ i, i < n → F i 5 = .slice (some ⟨V i, 0, none⟩) (ne i) (ne i)) := hF
 have HV : Hid (∀ i, i < n → g < V i ∧ V i < S) := hV
 have HE : Hid (∀ i, i < n → ne i ≤ 1048576) := hne
 have HG : Hid (B ≤ g ∧ g < S) := h0
 clear h hN hF hV hne h0
 go_enter Try.func43, Try.ntmps43
 go_wp2_with fail
 go_loopw [1, 5] (fun x i wr => ∃ (k q : Nat) (G : Nat → Nat → Value), k ≤ n ∧ i = .int .i64 (k : Int) ∧ x = .int .i64 (q : Int) ∧ q ≤ K + k * 1048584 ∧ RowE wr 8 (some ⟨g, 0, none⟩) g n G ∧ (∀ i, i < n → G i 5 = .slice (some ⟨V i, 0, none⟩) (ne i) (ne i)) ∧ NumsI wr n V ne ∧ MidK B S w wr) (fun _ i _ => n - (intOf i).toNat)
 case atStart => exact ⟨0, K, F, by omega, rfl, rfl, by omega, H0.out, HF.out, HN.out, MidK.refl _ _ _⟩
 case round =>
  obtain ⟨k, q, G, hk, rfl, rfl, hq, hr, hG, hN, hM⟩ := hrel
  by_cases hlt : k < n
  ·have hlt' : (k : Int) < (n : Int) := by omega
   have hq9 : q ≤ 8000000000000 := by omega
   have hgk := HV.out k hlt
   have t0 := hr.c k hlt 0 (by omega)
   have z0 := hr.z (k * 8 + 0) (by omega)
   have t1 := hr.c k hlt 1 (by omega)
   have z1 := hr.z (k * 8 + 1) (by omega)
   have t2 := hr.c k hlt 2 (by omega)
   have z2 := hr.z (k * 8 + 2) (by omega)
   have t3 := hr.c k hlt 3 (by omega)
   have z3 := hr.z (k * 8 + 3) (by omega)
   have t4 := hr.c k hlt 4 (by omega)
   have z4 := hr.z (k * 8 + 4) (by omega)
   have t5 := hr.c k hlt 5 (by omega)
   have z5 := hr.z (k * 8 + 5) (by omega)
   have t6 := hr.c k hlt 6 (by omega)
   have z6 := hr.z (k * 8 + 6) (by omega)
   have t7 := hr.c k hlt 7 (by omega)
   have z7 := hr.z (k * 8 + 7) (by omega)
   rw [hG k hlt] at t5
   rw [Nat.add_zero] at t0 z0
   have R5 : Hid (RowE (((((wr.setCell ⟨g, k * 8, none⟩ (.bool ((q : Int) % 3 == 0))).setCell ⟨g, k * 8 + 1, none⟩ (.int .i64 ((q : Int) + 1))).setCell ⟨g, k * 8 + 1 + 1, none⟩ (.int .i64 ((q : Int) + 1 + 1))).setCell ⟨g, k * 8 + 3, none⟩ (.int .i64 ((q : Int) + 1 + 1 + 1))).setCell ⟨g, k * 8 + 3 + 1, none⟩ (.int .i64 ((q : Int) + 1 + 1 + 1 + 1))) 8 (some ⟨g, 0, none⟩) g n (setF (setF (setF (setF (setF G k 0 (.bool ((q : Int) % 3 == 0))) k 1 (.int .i64 ((q : Int) + 1))) k 2 (.int .i64 ((q : Int) + 1 + 1))) k 3 (.int .i64 ((q : Int) + 1 + 1 + 1))) k 4 (.int .i64 ((q : Int) + 1 + 1 + 1 + 1)))) := (((((hr.set k 0 (by omega) (.bool ((q : Int) % 3 == 0))).set k 1 (by omega) (.int .i64 ((q : Int) + 1))).set k 2 (by omega) (.int .i64 ((q : Int) + 1 + 1))).set k 3 (by omega) (.int .i64 ((q : Int) + 1 + 1 + 1))).set k 4 (by omega) (.int .i64 ((q : Int) + 1 + 1 + 1 + 1)))
   have G5 : Hid (∀ i, i < n → (setF (setF (setF (setF (setF G k 0 (.bool ((q : Int) % 3 == 0))) k 1 (.int .i64 ((q : Int) + 1))) k 2 (.int .i64 ((q : Int) + 1 + 1))) k 3 (.int .i64 ((q : Int) + 1 + 1 + 1))) k 4 (.int .i64 ((q : Int) + 1 + 1 + 1 + 1))) i 5 = .slice (some ⟨V i, 0, none⟩) (ne i) (ne i)) := fun i hi => by simp [setF, hG i hi]
   have M5 : Hid (MidK B S w (((((wr.setCell ⟨g, k * 8, none⟩ (.bool ((q : Int) % 3 == 0))).setCell ⟨g, k * 8 + 1, none⟩ (.int .i64 ((q : Int) + 1))).setCell ⟨g, k * 8 + 1 + 1, none⟩ (.int .i64 ((q : Int) + 1 + 1))).setCell ⟨g, k * 8 + 3, none⟩ (.int .i64 ((q : Int) + 1 + 1 + 1))).setCell ⟨g, k * 8 + 3 + 1, none⟩ (.int .i64 ((q : Int) + 1 + 1 + 1 + 1)))) := (((((hM.set HG.out.1 HG.out.2 (k * 8) _).set HG.out.1 HG.out.2 (k * 8 + 1) _).set HG.out.1 HG.out.2 (k * 8 + 1 + 1) _).set HG.out.1 HG.out.2 (k * 8 + 3) _).set HG.out.1 HG.out.2 (k * 8 + 3 + 1) _)
   have N5 : Hid (NumsI (((((wr.setCell ⟨g, k * 8, none⟩ (.bool ((q : Int) % 3 == 0))).setCell ⟨g, k * 8 + 1, none⟩ (.int .i64 ((q : Int) + 1))).setCell ⟨g, k * 8 + 1 + 1, none⟩ (.int .i64 ((q : Int) + 1 + 1))).setCell ⟨g, k * 8 + 3, none⟩ (.int .i64 ((q : Int) + 1 + 1 + 1))).setCell ⟨g, k * 8 + 3 + 1, none⟩ (.int .i64 ((q : Int) + 1 + 1 + 1 + 1))) n V ne) := (((((hN.set (fun i hi => (HV.out i hi).1) (k * 8) _).set (fun i hi => (HV.out i hi).1) (k * 8 + 1) _).set (fun i hi => (HV.out i hi).1) (k * 8 + 1 + 1) _).set (fun i hi => (HV.out i hi).1) (k * 8 + 3) _).set (fun i hi => (HV.out i hi).1) (k * 8 + 3 + 1) _)
   have x5 : ((q : Int) + 1 + 1 + 1 + 1 + 1) = ((q + 5 : Nat) : Int) := by omega
   have X5 : Hid (((q : Int) + 1 + 1 + 1 + 1 + 1) = ((q + 5 : Nat) : Int)) := x5
   have HQ : Hid (q ≤ K + k * 1048584) := hq
   clear hr hG hN hM x5 hq hgk
   go_wp2_with fail
   generalize (((((wr.setCell ⟨g, k * 8, none⟩ (.bool ((q : Int) % 3 == 0))).setCell ⟨g, k * 8 + 1, none⟩ (.int .i64 ((q : Int) + 1))).setCell ⟨g, k * 8 + 1 + 1, none⟩ (.int .i64 ((q : Int) + 1 + 1))).setCell ⟨g, k * 8 + 3, none⟩ (.int .i64 ((q : Int) + 1 + 1 + 1))).setCell ⟨g, k * 8 + 3 + 1, none⟩ (.int .i64 ((q : Int) + 1 + 1 + 1 + 1))) = w5 at *
   generalize (setF (setF (setF (setF (setF G k 0 (.bool ((q : Int) % 3 == 0))) k 1 (.int .i64 ((q : Int) + 1))) k 2 (.int .i64 ((q : Int) + 1 + 1))) k 3 (.int .i64 ((q : Int) + 1 + 1 + 1))) k 4 (.int .i64 ((q : Int) + 1 + 1 + 1 + 1))) = G5f at *
   rw [X5.out]
   obtain ⟨C, hC⟩ := N5.out k hlt
   refine (markInt_any (V k) (ne k) (ne k) (q + 5) C (by omega) (HE.out k hlt) w5 hC).mono ?_
   rintro e w1 ⟨rfl, ⟨E, hE⟩, ho⟩
   have N6 : Hid (NumsI w1 n V ne) := N5.out.turn hlt hE ho
   have M6 : Hid (MidK B S w w1) := M5.out.trans (MidK.ofB ho (by have := HV.out k hlt; have := HG.out; omega) (HV.out k hlt).2)
   have R6 : RowE w1 8 (some ⟨g, 0, none⟩) g n G5f := R5.out.onlyB (by omega) ho (fun _ => by have := (HV.out k hlt).1; omega)
   have hne := HE.out k hlt
   obtain ⟨y, hy⟩ : ∃ y : Nat, y = q + 5 + ne k := ⟨_, rfl⟩
   rw [← hy]
   have HY : Hid (y = q + 5 + ne k) := hy
   have y9 : y ≤ 8000010000000 := by omega
   clear hy hne hC hE ho N5 M5 t0 z0 t1 z1 t2 z2 t3 z3 t4 z4 t5 z5 t6 z6 t7 z7
   have s6 := R6.c k hlt 6 (by omega)
   have u6 := R6.z (k * 8 + 6) (by omega)
   have s7 := R6.c k hlt 7 (by omega)
   have u7 := R6.z (k * 8 + 7) (by omega)
   have R7 : Hid (RowE ((w1.setCell ⟨g, k * 8 + 6, none⟩ (.int .i64 ((y : Int)))).setCell ⟨g, k * 8 + 6 + 1, none⟩ (.int .i64 ((y : Int) + 1))) 8 (some ⟨g, 0, none⟩) g n (setF (setF G5f k 6 (.int .i64 ((y : Int)))) k 7 (.int .i64 ((y : Int) + 1)))) := ((R6.set k 6 (by omega) (.int .i64 ((y : Int)))).set k 7 (by omega) (.int .i64 ((y : Int) + 1)))
   have G7 : Hid (∀ i, i < n → (setF (setF G5f k 6 (.int .i64 ((y : Int)))) k 7 (.int .i64 ((y : Int) + 1))) i 5 = .slice (some ⟨V i, 0, none⟩) (ne i) (ne i)) := fun i hi => by simp [setF, G5.out i hi]
   have M7 : Hid (MidK B S w ((w1.setCell ⟨g, k * 8 + 6, none⟩ (.int .i64 ((y : Int)))).setCell ⟨g, k * 8 + 6 + 1, none⟩ (.int .i64 ((y : Int) + 1)))) := ((M6.out.set HG.out.1 HG.out.2 (k * 8 + 6) _).set HG.out.1 HG.out.2 (k * 8 + 6 + 1) _)
   have N7 : Hid (NumsI ((w1.setCell ⟨g, k * 8 + 6, none⟩ (.int .i64 ((y : Int)))).setCell ⟨g, k * 8 + 6 + 1, none⟩ (.int .i64 ((y : Int) + 1))) n V ne) := ((N6.out.set (fun i hi => (HV.out i hi).1) (k * 8 + 6) _).set (fun i hi => (HV.out i hi).1) (k * 8 + 6 + 1) _)
   clear R6 R5 M6 N6 G5
   go_wp2
   go_roundw
   case rel => exact ⟨k + 1, y + 2, _, by omega, by go_num, by go_num, by have := HY.out; have := HQ.out; have := HE.out k hlt; omega, R7.out, G7.out, N7.out, M7.out⟩
   case measure => simp [intOf]; omega
  ·obtain rfl : k = n := by omega
   have hlt' : ¬ (k : Int) < (k : Int) := by omega
   have M2 : Hid (MidK B S w wr) := hM
   have HQ : Hid (q ≤ K + k * 1048584) := hq
   clear hr hG hN hM hq
   go_wp2
   go_ret
   exact ⟨⟨q, rfl, HQ.out⟩, M2.out⟩
set_option maxRecDepth 100000 in
set_option maxHeartbeats 4000000 in
theorem markWriteOpS_any (B S g n c K : Nat) (V ne : Nat → Nat) (F : Nat → Nat → Value) (hn : n ≤ 1048576) (hK : K ≤ 4000000000000) (h0 : B ≤ g ∧ g < S) (hV : ∀ i, i < n → g < V i ∧ V i < S) (hne : ∀ i, i < n → ne i ≤ 1048576) (hF : ∀ i, i < n → F i 2 = .slice (some ⟨V i, 0, none⟩) (ne i) (ne i)) (w : World) (h : RowE w 5 (some ⟨g, 0, none⟩) g n F) (hN : NumsI w n V ne) :
  Calls Try.prog 44 #[.slice (some ⟨g, 0, none⟩) n c, .int .i64 (K : Int)] w fun e w' => (∃ k : Nat, e = .returned (.int .i64 (k : Int)) ∧ k ≤ K + n * 1048584) ∧ MidK B S w w' := by
 have H0 : Hid (RowE w 5 (some ⟨g, 0, none⟩) g n F) := h
 have HN : Hid (NumsI w n V ne) := hN
 have HF : Hid (∀ i, i < n → F i 2 = .slice (some ⟨V i, 0, none⟩) (ne i) (ne i)) := hF
 have HV : Hid (∀ i, i < n → g < V i ∧ V i < S) := hV
 have HE : Hid (∀ i, i < n → ne i ≤ 1048576) := hne
 have HG : Hid (B ≤ g ∧ g < S) := h0
 clear h hN hF hV hne h0
 go_enter Try.func44, Try.ntmps44
 go_wp2_with fail
 go_loopw [1, 5] (fun x i wr => ∃ (k q : Nat) (G : Nat → Nat → Value), k ≤ n ∧ i = .int .i64 (k : Int) ∧ x = .int .i64 (q : Int) ∧ q ≤ K + k * 1048584 ∧ RowE wr 5 (some ⟨g, 0, none⟩) g n G ∧ (∀ i, i < n → G i 2 = .slice (some ⟨V i, 0, none⟩) (ne i) (ne i)) ∧ NumsI wr n V ne ∧ MidK B S w wr) (fun _ i _ => n - (intOf i).toNat)
 case atStart => exact ⟨0, K, F, by omega, rfl, rfl, by omega, H0.out, HF.out, HN.out, MidK.refl _ _ _⟩
 case round =>
  obtain ⟨k, q, G, hk, rfl, rfl, hq, hr, hG, hN, hM⟩ := hrel
  by_cases hlt : k < n
  ·have hlt' : (k : Int) < (n : Int) := by omega
   have hq9 : q ≤ 8000000000000 := by omega
   have hgk := HV.out k hlt
   have t0 := hr.c k hlt 0 (by omega)
   have z0 := hr.z (k * 5 + 0) (by omega)
   have t1 := hr.c k hlt 1 (by omega)
   have z1 := hr.z (k * 5 + 1) (by omega)
   have t2 := hr.c k hlt 2 (by omega)
   have z2 := hr.z (k * 5 + 2) (by omega)
   have t3 := hr.c k hlt 3 (by omega)
   have z3 := hr.z (k * 5 + 3) (by omega)
   have t4 := hr.c k hlt 4 (by omega)
   have z4 := hr.z (k * 5 + 4) (by omega)
   rw [hG k hlt] at t2
   rw [Nat.add_zero] at t0 z0
   have R5 : Hid (RowE ((wr.setCell ⟨g, k * 5, none⟩ (.int .i64 ((q : Int)))).setCell ⟨g, k * 5 + 1, none⟩ (.int .i64 ((q : Int) + 1))) 5 (some ⟨g, 0, none⟩) g n (setF (setF G k 0 (.int .i64 ((q : Int)))) k 1 (.int .i64 ((q : Int) + 1)))) := ((hr.set k 0 (by omega) (.int .i64 ((q : Int)))).set k 1 (by omega) (.int .i64 ((q : Int) + 1)))
   have G5 : Hid (∀ i, i < n → (setF (setF G k 0 (.int .i64 ((q : Int)))) k 1 (.int .i64 ((q : Int) + 1))) i 2 = .slice (some ⟨V i, 0, none⟩) (ne i) (ne i)) := fun i hi => by simp [setF, hG i hi]
   have M5 : Hid (MidK B S w ((wr.setCell ⟨g, k * 5, none⟩ (.int .i64 ((q : Int)))).setCell ⟨g, k * 5 + 1, none⟩ (.int .i64 ((q : Int) + 1)))) := ((hM.set HG.out.1 HG.out.2 (k * 5) _).set HG.out.1 HG.out.2 (k * 5 + 1) _)
   have N5 : Hid (NumsI ((wr.setCell ⟨g, k * 5, none⟩ (.int .i64 ((q : Int)))).setCell ⟨g, k * 5 + 1, none⟩ (.int .i64 ((q : Int) + 1))) n V ne) := ((hN.set (fun i hi => (HV.out i hi).1) (k * 5) _).set (fun i hi => (HV.out i hi).1) (k * 5 + 1) _)
   have x5 : ((q : Int) + 1 + 1) = ((q + 2 : Nat) : Int) := by omega
   have X5 : Hid (((q : Int) + 1 + 1) = ((q + 2 : Nat) : Int)) := x5
   have HQ : Hid (q ≤ K + k * 1048584) := hq
   clear hr hG hN hM x5 hq hgk
   go_wp2_with fail
   generalize ((wr.setCell ⟨g, k * 5, none⟩ (.int .i64 ((q : Int)))).setCell ⟨g, k * 5 + 1, none⟩ (.int .i64 ((q : Int) + 1))) = w5 at *
   generalize (setF (setF G k 0 (.int .i64 ((q : Int)))) k 1 (.int .i64 ((q : Int) + 1))) = G5f at *
   rw [X5.out]
   obtain ⟨C, hC⟩ := N5.out k hlt
   refine (markInt_any (V k) (ne k) (ne k) (q + 2) C (by omega) (HE.out k hlt) w5 hC).mono ?_
   rintro e w1 ⟨rfl, ⟨E, hE⟩, ho⟩
   have N6 : Hid (NumsI w1 n V ne) := N5.out.turn hlt hE ho
   have M6 : Hid (MidK B S w w1) := M5.out.trans (MidK.ofB ho (by have := HV.out k hlt; have := HG.out; omega) (HV.out k hlt).2)
   have R6 : RowE w1 5 (some ⟨g, 0, none⟩) g n G5f := R5.out.onlyB (by omega) ho (fun _ => by have := (HV.out k hlt).1; omega)
   have hne := HE.out k hlt
   obtain ⟨y, hy⟩ : ∃ y : Nat, y = q + 2 + ne k := ⟨_, rfl⟩
   rw [← hy]
   have HY : Hid (y = q + 2 + ne k) := hy
   have y9 : y ≤ 8000010000000 := by omega
   clear hy hne hC hE ho N5 M5 t0 z0 t1 z1 t2 z2 t3 z3 t4 z4
   have s3 := R6.c k hlt 3 (by omega)
   have u3 := R6.z (k * 5 + 3) (by omega)
   have s4 := R6.c k hlt 4 (by omega)
   have u4 := R6.z (k * 5 + 4) (by omega)
   have R7 : Hid (RowE ((w1.setCell ⟨g, k * 5 + 3, none⟩ (.int .i64 ((y : Int)))).setCell ⟨g, k * 5 + 4, none⟩ (.int .i64 ((y : Int) + 1))) 5 (some ⟨g, 0, none⟩) g n (setF (setF G5f k 3 (.int .i64 ((y : Int)))) k 4 (.int .i64 ((y : Int) + 1)))) := ((R6.set k 3 (by omega) (.int .i64 ((y : Int)))).set k 4 (by omega) (.int .i64 ((y : Int) + 1)))
   have G7 : Hid (∀ i, i < n → (setF (setF G5f k 3 (.int .i64 ((y : Int)))) k 4 (.int .i64 ((y : Int) + 1))) i 2 = .slice (some ⟨V i, 0, none⟩) (ne i) (ne i)) := fun i hi => by simp [setF, G5.out i hi]
   have M7 : Hid (MidK B S w ((w1.setCell ⟨g, k * 5 + 3, none⟩ (.int .i64 ((y : Int)))).setCell ⟨g, k * 5 + 4, none⟩ (.int .i64 ((y : Int) + 1)))) := ((M6.out.set HG.out.1 HG.out.2 (k * 5 + 3) _).set HG.out.1 HG.out.2 (k * 5 + 4) _)
   have N7 : Hid (NumsI ((w1.setCell ⟨g, k * 5 + 3, none⟩ (.int .i64 ((y : Int)))).setCell ⟨g, k * 5 + 4, none⟩ (.int .i64 ((y : Int) + 1))) n V ne) := ((N6.out.set (fun i hi => (HV.out i hi).1) (k * 5 + 3) _).set (fun i hi => (HV.out i hi).1) (k * 5 + 4) _)
   clear R6 R5 M6 N6 G5
   go_wp2
   go_roundw
   case rel => exact ⟨k + 1, y + 2, _, by omega, by go_num, by go_num, by have := HY.out; have := HQ.out; have := HE.out k hlt; omega, R7.out, G7.out, N7.out, M7.out⟩
   case measure => simp [intOf]; omega
  ·obtain rfl : k = n := by omega
   have hlt' : ¬ (k : Int) < (k : Int) := by omega
   have M2 : Hid (MidK B S w wr) := hM
   have HQ : Hid (q ≤ K + k * 1048584) := hq
   clear hr hG hN hM hq
   go_wp2
   go_ret
   exact ⟨⟨q, rfl, HQ.out⟩, M2.out⟩
set_option maxRecDepth 100000 in
set_option maxHeartbeats 4000000 in
theorem markReadOpS_any (B S g n c K : Nat) (V ne : Nat → Nat) (F : Nat → Nat → Value) (hn : n ≤ 1048576) (hK : K ≤ 4000000000000) (h0 : B ≤ g ∧ g < S) (hV : ∀ i, i < n → g < V i ∧ V i < S) (hne : ∀ i, i < n → ne i ≤ 1048576) (hF : ∀ i, i < n → F i 0 = .slice (some ⟨V i, 0, none⟩) (ne i) (ne i)) (w : World) (h : RowE w 5 (some ⟨g, 0, none⟩) g n F) (hN : NumsI w n V ne) :
  Calls Try.prog 45 #[.slice (some ⟨g, 0, none⟩) n c, .int .i64 (K : Int)] w fun e w' => (∃ k : Nat, e = .returned (.int .i64 (k : Int)) ∧ k ≤ K + n * 1048584) ∧ MidK B S w w' := by
 have H0 : Hid (RowE w 5 (some ⟨g, 0, none⟩) g n F) := h
 have HN : Hid (NumsI w n V ne) := hN
 have HF : Hid (∀ i, i < n → F i 0 = .slice (some ⟨V i, 0, none⟩) (ne i) (ne i)) := hF
 have HV : Hid (∀ i, i < n → g < V i ∧ V i < S) := hV
 have HE : Hid (∀ i, i < n → ne i ≤ 1048576) := hne
 have HG : Hid (B ≤ g ∧ g < S) := h0
 clear h hN hF hV hne h0
 go_enter Try.func45, Try.ntmps45
 go_wp2_with fail
 go_loopw [1, 5] (fun x i wr => ∃ (k q : Nat) (G : Nat → Nat → Value), k ≤ n ∧ i = .int .i64 (k : Int) ∧ x = .int .i64 (q : Int) ∧ q ≤ K + k * 1048584 ∧ RowE wr 5 (some ⟨g, 0, none⟩) g n G ∧ (∀ i, i < n → G i 0 = .slice (some ⟨V i, 0, none⟩) (ne i) (ne i)) ∧ NumsI wr n V ne ∧ MidK B S w wr) (fun _ i _ => n - (intOf i).toNat)
 case atStart => exact ⟨0, K, F, by omega, rfl, rfl, by omega, H0.out, HF.out, HN.out, MidK.refl _ _ _⟩
 case round =>
  obtain ⟨k, q, G, hk, rfl, rfl, hq, hr, hG, hN, hM⟩ := hrel
  by_cases hlt : k < n
  ·have hlt' : (k : Int) < (n : Int) := by omega
   have hq9 : q ≤ 8000000000000 := by omega
   have hgk := HV.out k hlt
   have t0 := hr.c k hlt 0 (by omega)
   have z0 := hr.z (k * 5 + 0) (by omega)
   have t1 := hr.c k hlt 1 (by omega)
   have z1 := hr.z (k * 5 + 1) (by omega)
   have t2 := hr.c k hlt 2 (by omega)
   have z2 := hr.z (k * 5 + 2) (by omega)
   have t3 := hr.c k hlt 3 (by omega)
   have z3 := hr.z (k * 5 + 3) (by omega)
   have t4 := hr.c k hlt 4 (by omega)
   have z4 := hr.z (k * 5 + 4) (by omega)
   rw [hG k hlt] at t0
   rw [Nat.add_zero] at t0 z0
   have R5 : Hid (RowE wr 5 (some ⟨g, 0, none⟩) g n G) := hr
   have G5 : Hid (∀ i, i < n → G i 0 = .slice (some ⟨V i, 0, none⟩) (ne i) (ne i)) := fun i hi => by simp [setF, hG i hi]
   have M5 : Hid (MidK B S w wr) := hM
   have N5 : Hid (NumsI wr n V ne) := hN
   have x5 : ((q : Int)) = ((q + 0 : Nat) : Int) := by omega
   have X5 : Hid (((q : Int)) = ((q + 0 : Nat) : Int)) := x5
   have HQ : Hid (q ≤ K + k * 1048584) := hq
   clear hr hG hN hM x5 hq hgk
   go_wp2_with fail
   generalize wr = w5 at *
   generalize G = G5f at *
   skip
   obtain ⟨C, hC⟩ := N5.out k hlt
   refine (markInt_any (V k) (ne k) (ne k) (q) C (by omega) (HE.out k hlt) w5 hC).mono ?_
   rintro e w1 ⟨rfl, ⟨E, hE⟩, ho⟩
   have N6 : Hid (NumsI w1 n V ne) := N5.out.turn hlt hE ho
   have M6 : Hid (MidK B S w w1) := M5.out.trans (MidK.ofB ho (by have := HV.out k hlt; have := HG.out; omega) (HV.out k hlt).2)
   have R6 : RowE w1 5 (some ⟨g, 0, none⟩) g n G5f := R5.out.onlyB (by omega) ho (fun _ => by have := (HV.out k hlt).1; omega)
   have hne := HE.out k hlt
   obtain ⟨y, hy⟩ : ∃ y : Nat, y = q + ne k := ⟨_, rfl⟩
   rw [← hy]
   have HY : Hid (y = q + ne k) := hy
   have y9 : y ≤ 8000010000000 := by omega
   clear hy hne hC hE ho N5 M5 t0 z0 t1 z1 t2 z2 t3 z3 t4 z4
   have s1 := R6.c k hlt 1 (by omega)
   have u1 := R6.z (k * 5 + 1) (by omega)
   have s2 := R6.c k hlt 2 (by omega)
   have u2 := R6.z (k * 5 + 2) (by omega)
   have s3 := R6.c k hlt 3 (by omega)
   have u3 := R6.z (k * 5 + 3) (by omega)
   have s4 := R6.c k hlt 4 (by omega)
   have u4 := R6.z (k * 5 + 4) (by omega)
   have R7 : Hid (RowE ((((w1.setCell ⟨g, k * 5 + 1, none⟩ (.int .i64 ((y : Int)))).setCell ⟨g, k * 5 + 1 + 1, none⟩ (.int .i64 ((y : Int) + 1))).setCell ⟨g, k * 5 + 3, none⟩ (.int .i64 ((y : Int) + 1 + 1))).setCell ⟨g, k * 5 + 4, none⟩ (.int .i64 ((y : Int) + 1 + 1 + 1))) 5 (some ⟨g, 0, none⟩) g n (setF (setF (setF (setF G5f k 1 (.int .i64 ((y : Int)))) k 2 (.int .i64 ((y : Int) + 1))) k 3 (.int .i64 ((y : Int) + 1 + 1))) k 4 (.int .i64 ((y : Int) + 1 + 1 + 1)))) := ((((R6.set k 1 (by omega) (.int .i64 ((y : Int)))).set k 2 (by omega) (.int .i64 ((y : Int) + 1))).set k 3 (by omega) (.int .i64 ((y : Int) + 1 + 1))).set k 4 (by omega) (.int .i64 ((y : Int) + 1 + 1 + 1)))
   have G7 : Hid (∀ i, i < n → (setF (setF (setF (setF G5f k 1 (.int .i64 ((y : Int)))) k 2 (.int .i64 ((y : Int) + 1))) k 3 (.int .i64 ((y : Int) + 1 + 1))) k 4 (.int .i64 ((y : Int) + 1 + 1 + 1))) i 0 = .slice (some ⟨V i, 0, none⟩) (ne i) (ne i)) := fun i hi => by simp [setF, G5.out i hi]
   have M7 : Hid (MidK B S w ((((w1.setCell ⟨g, k * 5 + 1, none⟩ (.int .i64 ((y : Int)))).setCell ⟨g, k * 5 + 1 + 1, none⟩ (.int .i64 ((y : Int) + 1))).setCell ⟨g, k * 5 + 3, none⟩ (.int .i64 ((y : Int) + 1 + 1))).setCell ⟨g, k * 5 + 4, none⟩ (.int .i64 ((y : Int) + 1 + 1 + 1)))) := ((((M6.out.set HG.out.1 HG.out.2 (k * 5 + 1) _).set HG.out.1 HG.out.2 (k * 5 + 1 + 1) _).set HG.out.1 HG.out.2 (k * 5 + 3) _).set HG.out.1 HG.out.2 (k * 5 + 4) _)
   have N7 : Hid (NumsI ((((w1.setCell ⟨g, k * 5 + 1, none⟩ (.int .i64 ((y : Int)))).setCell ⟨g, k * 5 + 1 + 1, none⟩ (.int .i64 ((y : Int) + 1))).setCell ⟨g, k * 5 + 3, none⟩ (.int .i64 ((y : Int) + 1 + 1))).setCell ⟨g, k * 5 + 4, none⟩ (.int .i64 ((y : Int) + 1 + 1 + 1))) n V ne) := ((((N6.out.set (fun i hi => (HV.out i hi).1) (k * 5 + 1) _).set (fun i hi => (HV.out i hi).1) (k * 5 + 1 + 1) _).set (fun i hi => (HV.out i hi).1) (k * 5 + 3) _).set (fun i hi => (HV.out i hi).1) (k * 5 + 4) _)
   clear R6 R5 M6 N6 G5
   go_wp2
   go_roundw
   case rel => exact ⟨k + 1, y + 4, _, by omega, by go_num, by go_num, by have := HY.out; have := HQ.out; have := HE.out k hlt; omega, R7.out, G7.out, N7.out, M7.out⟩
   case measure => simp [intOf]; omega
  ·obtain rfl : k = n := by omega
   have hlt' : ¬ (k : Int) < (k : Int) := by omega
   have M2 : Hid (MidK B S w wr) := hM
   have HQ : Hid (q ≤ K + k * 1048584) := hq
   clear hr hG hN hM hq
   go_wp2
   go_ret
   exact ⟨⟨q, rfl, HQ.out⟩, M2.out⟩
end Go.Proofs.Ytedncfcmhaaobaa
namespace Go.Proofs.Ytedncfcmhaaobaa
open Go.ChangeShapes Go.WideShapes Go.ChangeAt Go.RowKit
set_option linter.unusedVariables false
set_option linter.unusedSimpArgs false
structure OrdS (s : Sv) (ga gb gd : Nat) (VA VB : Nat → Nat) : Prop where
 a : ga < gb
 A : ∀ j, j < s.n → VA j < gb
 b : gb < gd
 B : ∀ j, j < s.m → VB j < gd
theorem MidK.ofBelow {B S : Nat} {w w' : World} (h : Below w.heap.size w w') : MidK B S w w' := ⟨h.os, h.tape, h.output, h.size, fun k hk _ => h.block k hk⟩
theorem MidK.mono {B S B' S' : Nat} {w w' : World} (h : MidK B S w w') (h1 : B' ≤ B) (h2 : S ≤ S') : MidK B' S' w w' := ⟨h.os, h.tape, h.output, h.size, fun k hk hd => h.block k hk (by omega)⟩
set_option maxRecDepth 100000 in
set_option maxHeartbeats 4000000 in
theorem toService_ord (s : Sv) (p : Sa) (hm : s.max 1048576) (w : World) (h : SvV w s p) :
  Calls Try.prog 12 #[.agg #[.slice p.a s.n p.ca, .int .i64 s.t, .slice p.b s.m p.cb, .slice p.d s.l p.cd]] w fun e w' => (∃ (ga gb gd : Nat) (VA VB VD : Nat → Nat), e = .returned (.agg #[.slice (some ⟨ga, 0, none⟩) s.n s.n, .int .i64 s.t, .slice (some ⟨gb, 0, none⟩) s.m s.m, .slice (some ⟨gd, 0, none⟩) s.l s.l]) ∧ RpO w' w.heap.size ga s.n s.R VA ∧ WoO w' w.heap.size gb s.m s.W VB ∧ RoO w' w.heap.size gd s.l s.Q VD ∧ OrdS s ga gb gd VA VB) ∧ Below w.heap.size w w' := by
 have T0 : Hid (∀ w : World, SvV w s p → Calls Try.prog 37 #[.slice p.a s.n p.ca] w fun e w' => (∃ V : Nat → Nat, e = .returned (.slice (some ⟨w.heap.size, 0, none⟩) s.n s.n) ∧ RpO w' w.heap.size w.heap.size s.n s.R V) ∧ Below w.heap.size w w') := fun w h => (toReplicaS_any p.a s.n p.ca s.R p.A p.X hm.1.1 hm.1.2 w h.1).mono fun e w' q => ⟨by obtain ⟨V, q1, q2, q3, q4⟩ := q.1; exact ⟨V, q1, ⟨Nat.le_refl _, q4⟩, q2, q3⟩, q.2⟩
 have T1 : Hid (∀ w : World, SvV w s p → Calls Try.prog 38 #[.slice p.b s.m p.cb] w fun e w' => (∃ V : Nat → Nat, e = .returned (.slice (some ⟨w.heap.size, 0, none⟩) s.m s.m) ∧ WoO w' w.heap.size w.heap.size s.m s.W V) ∧ Below w.heap.size w w') := fun w h => (toWriteOpS_any p.b s.m p.cb s.W p.B p.Y hm.2.1.1 hm.2.1.2 w h.2.1).mono fun e w' q => ⟨by obtain ⟨V, q1, q2, q3, q4⟩ := q.1; exact ⟨V, q1, ⟨Nat.le_refl _, q4⟩, q2, q3⟩, q.2⟩
 have T2 : Hid (∀ w : World, SvV w s p → Calls Try.prog 39 #[.slice p.d s.l p.cd] w fun e w' => (∃ V : Nat → Nat, e = .returned (.slice (some ⟨w.heap.size, 0, none⟩) s.l s.l) ∧ RoO w' w.heap.size w.heap.size s.l s.Q V) ∧ Below w.heap.size w w') := fun w h => (toReadOpS_any p.d s.l p.cd s.Q p.D p.Z hm.2.2.1 hm.2.2.2 w h.2.2).mono fun e w' q => ⟨by obtain ⟨V, q1, q2, q3, q4⟩ := q.1; exact ⟨V, q1, ⟨Nat.le_refl _, q4⟩, q2, q3⟩, q.2⟩
 have HA : Hid (SvV w s p) := h
 have A1 : Hid (Below w.heap.size w (((w.alloc (.cells #[.slice p.a s.n p.ca, .int .i64 s.t, .slice p.b s.m p.cb, .slice p.d s.l p.cd] 49)).alloc (.cells #[.slice none 0 0, .int .i64 0, .slice none 0 0, .slice none 0 0] 28)).alloc (.cells #[.slice none 0 0, .int .i64 0, .slice none 0 0, .slice none 0 0] 28))) := (((Below.refl w.heap.size w).alloc (Nat.le_refl _) _).alloc (by simp) _).alloc (by simp; omega) _
 have SZ : Hid (w.heap.size + 3 ≤ ((((w.alloc (.cells #[.slice p.a s.n p.ca, .int .i64 s.t, .slice p.b s.m p.cb, .slice p.d s.l p.cd] 49)).alloc (.cells #[.slice none 0 0, .int .i64 0, .slice none 0 0, .slice none 0 0] 28)).alloc (.cells #[.slice none 0 0, .int .i64 0, .slice none 0 0, .slice none 0 0] 28))).heap.size) := by show w.heap.size + 3 ≤ _; simp
 have X : Hid (Box4 (((w.alloc (.cells #[.slice p.a s.n p.ca, .int .i64 s.t, .slice p.b s.m p.cb, .slice p.d s.l p.cd] 49)).alloc (.cells #[.slice none 0 0, .int .i64 0, .slice none 0 0, .slice none 0 0] 28)).alloc (.cells #[.slice none 0 0, .int .i64 0, .slice none 0 0, .slice none 0 0] 28)) w.heap.size 49 (.slice p.a s.n p.ca) (.int .i64 s.t) (.slice p.b s.m p.cb) (.slice p.d s.l p.cd)) := ((Box4.madeAt rfl _ _ _ _ _).alloc _).alloc _
 have Y : Hid (Box4 (((w.alloc (.cells #[.slice p.a s.n p.ca, .int .i64 s.t, .slice p.b s.m p.cb, .slice p.d s.l p.cd] 49)).alloc (.cells #[.slice none 0 0, .int .i64 0, .slice none 0 0, .slice none 0 0] 28)).alloc (.cells #[.slice none 0 0, .int .i64 0, .slice none 0 0, .slice none 0 0] 28)) (w.heap.size + 1) 28 (.slice none 0 0) (.int .i64 0) (.slice none 0 0) (.slice none 0 0)) := (Box4.madeAt (by simp) _ _ _ _ _).alloc _
 have Z : Hid (Box4 (((w.alloc (.cells #[.slice p.a s.n p.ca, .int .i64 s.t, .slice p.b s.m p.cb, .slice p.d s.l p.cd] 49)).alloc (.cells #[.slice none 0 0, .int .i64 0, .slice none 0 0, .slice none 0 0] 28)).alloc (.cells #[.slice none 0 0, .int .i64 0, .slice none 0 0, .slice none 0 0] 28)) (w.heap.size + 2) 28 (.slice none 0 0) (.int .i64 0) (.slice none 0 0) (.slice none 0 0)) := Box4.madeAt (by simp) _ _ _ _ _
 clear h hm
 go_enter Try.func12, Try.ntmps12
 go_wp2_with fail
 generalize (((w.alloc (.cells #[.slice p.a s.n p.ca, .int .i64 s.t, .slice p.b s.m p.cb, .slice p.d s.l p.cd] 49)).alloc (.cells #[.slice none 0 0, .int .i64 0, .slice none 0 0, .slice none 0 0] 28)).alloc (.cells #[.slice none 0 0, .int .i64 0, .slice none 0 0, .slice none 0 0] 28)) = u0 at *
 obtain ⟨ga, hga⟩ : ∃ g, g = u0.heap.size := ⟨_, rfl⟩
 have G0 : Hid (w.heap.size + 3 ≤ ga) := by rw [hga]; exact SZ.out
 refine (T0.out _ (HA.out.below A1.out)).mono ?_
 rintro e v1 ⟨⟨VA, rfl, ho⟩, hb⟩
 rw [← hga] at ho ⊢
 have N0 : Hid (RpO v1 (w.heap.size + 3) ga s.n s.R VA) := ⟨⟨G0.out, ho.1.2⟩, ho.2⟩
 clear ho hga
 replace A1 : Hid (Below w.heap.size w v1) := A1.out.trans (hb.mono A1.out.size)
 replace SZ : Hid (w.heap.size + 3 ≤ v1.heap.size) := Nat.le_trans SZ.out hb.size
 replace X : Hid (Box4 v1 w.heap.size 49 (.slice p.a s.n p.ca) (.int .i64 s.t) (.slice p.b s.m p.cb) (.slice p.d s.l p.cd)) := X.out.below hb
 replace Y : Hid (Box4 v1 (w.heap.size + 1) 28 (.slice none 0 0) (.int .i64 0) (.slice none 0 0) (.slice none 0 0)) := Y.out.below hb
 replace Z : Hid (Box4 v1 (w.heap.size + 2) 28 (.slice none 0 0) (.int .i64 0) (.slice none 0 0) (.slice none 0 0)) := Z.out.below hb
 clear hb
 have x0 := X.out.c0
 have z0 := Z.out.c0
 have zf0 := Z.out.fr 0
 have x1 := X.out.c1
 have z1 := Z.out.c1
 have zf1 := Z.out.fr 1
 have x2 := X.out.c2
 have z2 := Z.out.c2
 have zf2 := Z.out.fr 2
 have x3 := X.out.c3
 have z3 := Z.out.c3
 have zf3 := Z.out.fr 3
 have O1 : OnlyB (w.heap.size + 2) v1 ((v1.setCell ⟨w.heap.size + 2, 0, none⟩ (.slice (some ⟨ga, 0, none⟩) s.n s.n)).setCell ⟨w.heap.size + 2, 1, none⟩ (.int .i64 s.t)) := (((OnlyB.refl (w.heap.size + 2) v1).setCell 0 _).setCell 1 _)
 replace Z : Hid (Box4 ((v1.setCell ⟨w.heap.size + 2, 0, none⟩ (.slice (some ⟨ga, 0, none⟩) s.n s.n)).setCell ⟨w.heap.size + 2, 1, none⟩ (.int .i64 s.t)) (w.heap.size + 2) 28 (.slice (some ⟨ga, 0, none⟩) s.n s.n) (.int .i64 s.t) (.slice none 0 0) (.slice none 0 0)) := ((Z.out.set0 _).set1 _)
 replace X : Hid (Box4 ((v1.setCell ⟨w.heap.size + 2, 0, none⟩ (.slice (some ⟨ga, 0, none⟩) s.n s.n)).setCell ⟨w.heap.size + 2, 1, none⟩ (.int .i64 s.t)) w.heap.size 49 (.slice p.a s.n p.ca) (.int .i64 s.t) (.slice p.b s.m p.cb) (.slice p.d s.l p.cd)) := X.out.ofBlock (O1.block _ X.out.lt (by omega))
 replace A1 : Hid (Below w.heap.size w ((v1.setCell ⟨w.heap.size + 2, 0, none⟩ (.slice (some ⟨ga, 0, none⟩) s.n s.n)).setCell ⟨w.heap.size + 2, 1, none⟩ (.int .i64 s.t))) := A1.out.trans (O1.toBelow (by omega) A1.out.size)
 replace SZ : Hid (w.heap.size + 3 ≤ ((v1.setCell ⟨w.heap.size + 2, 0, none⟩ (.slice (some ⟨ga, 0, none⟩) s.n s.n)).setCell ⟨w.heap.size + 2, 1, none⟩ (.int .i64 s.t)).heap.size) := Nat.le_trans SZ.out O1.size
 replace N0 : Hid (RpO ((v1.setCell ⟨w.heap.size + 2, 0, none⟩ (.slice (some ⟨ga, 0, none⟩) s.n s.n)).setCell ⟨w.heap.size + 2, 1, none⟩ (.int .i64 s.t)) (w.heap.size + 3) ga s.n s.R VA) := N0.out.keep O1.size (fun k h1 h2 => O1.block k h2 (by omega))
 replace Y : Hid (Box4 ((v1.setCell ⟨w.heap.size + 2, 0, none⟩ (.slice (some ⟨ga, 0, none⟩) s.n s.n)).setCell ⟨w.heap.size + 2, 1, none⟩ (.int .i64 s.t)) (w.heap.size + 1) 28 (.slice none 0 0) (.int .i64 0) (.slice none 0 0) (.slice none 0 0)) := Y.out.ofBlock (O1.block _ Y.out.lt (by omega))
 clear O1
 go_wp2_with fail
 generalize ((v1.setCell ⟨w.heap.size + 2, 0, none⟩ (.slice (some ⟨ga, 0, none⟩) s.n s.n)).setCell ⟨w.heap.size + 2, 1, none⟩ (.int .i64 s.t)) = u1 at *
 clear x0 z0 zf0 x1 z1 zf1 x2 z2 zf2 x3 z3 zf3
 obtain ⟨gb, hgb⟩ : ∃ g, g = u1.heap.size := ⟨_, rfl⟩
 have OA : Hid (ga < gb ∧ ∀ j, j < s.n → VA j < gb) := by rw [hgb]; exact ⟨N0.out.1.2, fun j hj => World.rowIs.lt (N0.out.2.2 j hj).2⟩
 have G1 : Hid (w.heap.size + 3 ≤ gb) := by rw [hgb]; exact SZ.out
 refine (T1.out _ (HA.out.below A1.out)).mono ?_
 rintro e v2 ⟨⟨VB, rfl, ho⟩, hb⟩
 rw [← hgb] at ho ⊢
 have N1 : Hid (WoO v2 (w.heap.size + 3) gb s.m s.W VB) := ⟨⟨G1.out, ho.1.2⟩, ho.2⟩
 clear ho hgb
 replace A1 : Hid (Below w.heap.size w v2) := A1.out.trans (hb.mono A1.out.size)
 replace SZ : Hid (w.heap.size + 3 ≤ v2.heap.size) := Nat.le_trans SZ.out hb.size
 replace X : Hid (Box4 v2 w.heap.size 49 (.slice p.a s.n p.ca) (.int .i64 s.t) (.slice p.b s.m p.cb) (.slice p.d s.l p.cd)) := X.out.below hb
 replace Y : Hid (Box4 v2 (w.heap.size + 1) 28 (.slice none 0 0) (.int .i64 0) (.slice none 0 0) (.slice none 0 0)) := Y.out.below hb
 replace Z : Hid (Box4 v2 (w.heap.size + 2) 28 (.slice (some ⟨ga, 0, none⟩) s.n s.n) (.int .i64 s.t) (.slice none 0 0) (.slice none 0 0)) := Z.out.below hb
 replace N0 : Hid (RpO v2 (w.heap.size + 3) ga s.n s.R VA) := N0.out.below hb
 clear hb
 have x0 := X.out.c0
 have z0 := Z.out.c0
 have zf0 := Z.out.fr 0
 have x1 := X.out.c1
 have z1 := Z.out.c1
 have zf1 := Z.out.fr 1
 have x2 := X.out.c2
 have z2 := Z.out.c2
 have zf2 := Z.out.fr 2
 have x3 := X.out.c3
 have z3 := Z.out.c3
 have zf3 := Z.out.fr 3
 have O1 : OnlyB (w.heap.size + 2) v2 (v2.setCell ⟨w.heap.size + 2, 2, none⟩ (.slice (some ⟨gb, 0, none⟩) s.m s.m)) := ((OnlyB.refl (w.heap.size + 2) v2).setCell 2 _)
 replace Z : Hid (Box4 (v2.setCell ⟨w.heap.size + 2, 2, none⟩ (.slice (some ⟨gb, 0, none⟩) s.m s.m)) (w.heap.size + 2) 28 (.slice (some ⟨ga, 0, none⟩) s.n s.n) (.int .i64 s.t) (.slice (some ⟨gb, 0, none⟩) s.m s.m) (.slice none 0 0)) := (Z.out.set2 _)
 replace X : Hid (Box4 (v2.setCell ⟨w.heap.size + 2, 2, none⟩ (.slice (some ⟨gb, 0, none⟩) s.m s.m)) w.heap.size 49 (.slice p.a s.n p.ca) (.int .i64 s.t) (.slice p.b s.m p.cb) (.slice p.d s.l p.cd)) := X.out.ofBlock (O1.block _ X.out.lt (by omega))
 replace A1 : Hid (Below w.heap.size w (v2.setCell ⟨w.heap.size + 2, 2, none⟩ (.slice (some ⟨gb, 0, none⟩) s.m s.m))) := A1.out.trans (O1.toBelow (by omega) A1.out.size)
 replace SZ : Hid (w.heap.size + 3 ≤ (v2.setCell ⟨w.heap.size + 2, 2, none⟩ (.slice (some ⟨gb, 0, none⟩) s.m s.m)).heap.size) := Nat.le_trans SZ.out O1.size
 replace N0 : Hid (RpO (v2.setCell ⟨w.heap.size + 2, 2, none⟩ (.slice (some ⟨gb, 0, none⟩) s.m s.m)) (w.heap.size + 3) ga s.n s.R VA) := N0.out.keep O1.size (fun k h1 h2 => O1.block k h2 (by omega))
 replace N1 : Hid (WoO (v2.setCell ⟨w.heap.size + 2, 2, none⟩ (.slice (some ⟨gb, 0, none⟩) s.m s.m)) (w.heap.size + 3) gb s.m s.W VB) := N1.out.keep O1.size (fun k h1 h2 => O1.block k h2 (by omega))
 replace Y : Hid (Box4 (v2.setCell ⟨w.heap.size + 2, 2, none⟩ (.slice (some ⟨gb, 0, none⟩) s.m s.m)) (w.heap.size + 1) 28 (.slice none 0 0) (.int .i64 0) (.slice none 0 0) (.slice none 0 0)) := Y.out.ofBlock (O1.block _ Y.out.lt (by omega))
 clear O1
 go_wp2_with fail
 generalize (v2.setCell ⟨w.heap.size + 2, 2, none⟩ (.slice (some ⟨gb, 0, none⟩) s.m s.m)) = u2 at *
 clear x0 z0 zf0 x1 z1 zf1 x2 z2 zf2 x3 z3 zf3
 obtain ⟨gd, hgd⟩ : ∃ g, g = u2.heap.size := ⟨_, rfl⟩
 have OB : Hid (gb < gd ∧ ∀ j, j < s.m → VB j < gd) := by rw [hgd]; exact ⟨N1.out.1.2, fun j hj => World.rowIs.lt (N1.out.2.2 j hj).2⟩
 have G2 : Hid (w.heap.size + 3 ≤ gd) := by rw [hgd]; exact SZ.out
 refine (T2.out _ (HA.out.below A1.out)).mono ?_
 rintro e v3 ⟨⟨VD, rfl, ho⟩, hb⟩
 rw [← hgd] at ho ⊢
 have N2 : Hid (RoO v3 (w.heap.size + 3) gd s.l s.Q VD) := ⟨⟨G2.out, ho.1.2⟩, ho.2⟩
 clear ho hgd
 replace A1 : Hid (Below w.heap.size w v3) := A1.out.trans (hb.mono A1.out.size)
 replace SZ : Hid (w.heap.size + 3 ≤ v3.heap.size) := Nat.le_trans SZ.out hb.size
 replace X : Hid (Box4 v3 w.heap.size 49 (.slice p.a s.n p.ca) (.int .i64 s.t) (.slice p.b s.m p.cb) (.slice p.d s.l p.cd)) := X.out.below hb
 replace Y : Hid (Box4 v3 (w.heap.size + 1) 28 (.slice none 0 0) (.int .i64 0) (.slice none 0 0) (.slice none 0 0)) := Y.out.below hb
 replace Z : Hid (Box4 v3 (w.heap.size + 2) 28 (.slice (some ⟨ga, 0, none⟩) s.n s.n) (.int .i64 s.t) (.slice (some ⟨gb, 0, none⟩) s.m s.m) (.slice none 0 0)) := Z.out.below hb
 replace N0 : Hid (RpO v3 (w.heap.size + 3) ga s.n s.R VA) := N0.out.below hb
 replace N1 : Hid (WoO v3 (w.heap.size + 3) gb s.m s.W VB) := N1.out.below hb
 clear hb
 have x0 := X.out.c0
 have z0 := Z.out.c0
 have zf0 := Z.out.fr 0
 have x1 := X.out.c1
 have z1 := Z.out.c1
 have zf1 := Z.out.fr 1
 have x2 := X.out.c2
 have z2 := Z.out.c2
 have zf2 := Z.out.fr 2
 have x3 := X.out.c3
 have z3 := Z.out.c3
 have zf3 := Z.out.fr 3
 have O1 : OnlyB (w.heap.size + 2) v3 (v3.setCell ⟨w.heap.size + 2, 3, none⟩ (.slice (some ⟨gd, 0, none⟩) s.l s.l)) := ((OnlyB.refl (w.heap.size + 2) v3).setCell 3 _)
 replace Z : Hid (Box4 (v3.setCell ⟨w.heap.size + 2, 3, none⟩ (.slice (some ⟨gd, 0, none⟩) s.l s.l)) (w.heap.size + 2) 28 (.slice (some ⟨ga, 0, none⟩) s.n s.n) (.int .i64 s.t) (.slice (some ⟨gb, 0, none⟩) s.m s.m) (.slice (some ⟨gd, 0, none⟩) s.l s.l)) := (Z.out.set3 _)
 replace X : Hid (Box4 (v3.setCell ⟨w.heap.size + 2, 3, none⟩ (.slice (some ⟨gd, 0, none⟩) s.l s.l)) w.heap.size 49 (.slice p.a s.n p.ca) (.int .i64 s.t) (.slice p.b s.m p.cb) (.slice p.d s.l p.cd)) := X.out.ofBlock (O1.block _ X.out.lt (by omega))
 replace A1 : Hid (Below w.heap.size w (v3.setCell ⟨w.heap.size + 2, 3, none⟩ (.slice (some ⟨gd, 0, none⟩) s.l s.l))) := A1.out.trans (O1.toBelow (by omega) A1.out.size)
 replace SZ : Hid (w.heap.size + 3 ≤ (v3.setCell ⟨w.heap.size + 2, 3, none⟩ (.slice (some ⟨gd, 0, none⟩) s.l s.l)).heap.size) := Nat.le_trans SZ.out O1.size
 replace N0 : Hid (RpO (v3.setCell ⟨w.heap.size + 2, 3, none⟩ (.slice (some ⟨gd, 0, none⟩) s.l s.l)) (w.heap.size + 3) ga s.n s.R VA) := N0.out.keep O1.size (fun k h1 h2 => O1.block k h2 (by omega))
 replace N1 : Hid (WoO (v3.setCell ⟨w.heap.size + 2, 3, none⟩ (.slice (some ⟨gd, 0, none⟩) s.l s.l)) (w.heap.size + 3) gb s.m s.W VB) := N1.out.keep O1.size (fun k h1 h2 => O1.block k h2 (by omega))
 replace N2 : Hid (RoO (v3.setCell ⟨w.heap.size + 2, 3, none⟩ (.slice (some ⟨gd, 0, none⟩) s.l s.l)) (w.heap.size + 3) gd s.l s.Q VD) := N2.out.keep O1.size (fun k h1 h2 => O1.block k h2 (by omega))
 have y0 := Y.out.c0
 have yf0 := Y.out.fr 0
 have y1 := Y.out.c1
 have yf1 := Y.out.fr 1
 have y2 := Y.out.c2
 have yf2 := Y.out.fr 2
 have y3 := Y.out.c3
 have yf3 := Y.out.fr 3
 have O2 : OnlyB (w.heap.size + 1) (v3.setCell ⟨w.heap.size + 2, 3, none⟩ (.slice (some ⟨gd, 0, none⟩) s.l s.l)) (((((v3.setCell ⟨w.heap.size + 2, 3, none⟩ (.slice (some ⟨gd, 0, none⟩) s.l s.l)).setCell ⟨w.heap.size + 1, 0, none⟩ (.slice (some ⟨ga, 0, none⟩) s.n s.n)).setCell ⟨w.heap.size + 1, 1, none⟩ (.int .i64 s.t)).setCell ⟨w.heap.size + 1, 2, none⟩ (.slice (some ⟨gb, 0, none⟩) s.m s.m)).setCell ⟨w.heap.size + 1, 3, none⟩ (.slice (some ⟨gd, 0, none⟩) s.l s.l)) := (((((OnlyB.refl (w.heap.size + 1) (v3.setCell ⟨w.heap.size + 2, 3, none⟩ (.slice (some ⟨gd, 0, none⟩) s.l s.l))).setCell 0 _).setCell 1 _).setCell 2 _).setCell 3 _)
 have Y5 : Hid (Box4 (((((v3.setCell ⟨w.heap.size + 2, 3, none⟩ (.slice (some ⟨gd, 0, none⟩) s.l s.l)).setCell ⟨w.heap.size + 1, 0, none⟩ (.slice (some ⟨ga, 0, none⟩) s.n s.n)).setCell ⟨w.heap.size + 1, 1, none⟩ (.int .i64 s.t)).setCell ⟨w.heap.size + 1, 2, none⟩ (.slice (some ⟨gb, 0, none⟩) s.m s.m)).setCell ⟨w.heap.size + 1, 3, none⟩ (.slice (some ⟨gd, 0, none⟩) s.l s.l)) (w.heap.size + 1) 28 (.slice (some ⟨ga, 0, none⟩) s.n s.n) (.int .i64 s.t) (.slice (some ⟨gb, 0, none⟩) s.m s.m) (.slice (some ⟨gd, 0, none⟩) s.l s.l)) := (((((Y.out.ofBlock (O1.block _ Y.out.lt (by omega))).set0 _).set1 _).set2 _).set3 _)
 have B5 : Hid (Below w.heap.size w (((((v3.setCell ⟨w.heap.size + 2, 3, none⟩ (.slice (some ⟨gd, 0, none⟩) s.l s.l)).setCell ⟨w.heap.size + 1, 0, none⟩ (.slice (some ⟨ga, 0, none⟩) s.n s.n)).setCell ⟨w.heap.size + 1, 1, none⟩ (.int .i64 s.t)).setCell ⟨w.heap.size + 1, 2, none⟩ (.slice (some ⟨gb, 0, none⟩) s.m s.m)).setCell ⟨w.heap.size + 1, 3, none⟩ (.slice (some ⟨gd, 0, none⟩) s.l s.l))) := A1.out.trans (O2.toBelow (by omega) A1.out.size)
 have R0 : Hid (RpO (((((v3.setCell ⟨w.heap.size + 2, 3, none⟩ (.slice (some ⟨gd, 0, none⟩) s.l s.l)).setCell ⟨w.heap.size + 1, 0, none⟩ (.slice (some ⟨ga, 0, none⟩) s.n s.n)).setCell ⟨w.heap.size + 1, 1, none⟩ (.int .i64 s.t)).setCell ⟨w.heap.size + 1, 2, none⟩ (.slice (some ⟨gb, 0, none⟩) s.m s.m)).setCell ⟨w.heap.size + 1, 3, none⟩ (.slice (some ⟨gd, 0, none⟩) s.l s.l)) w.heap.size ga s.n s.R VA) := by
  have q := N0.out.keep O2.size (fun k h1 h2 => O2.block k h2 (by omega))
  exact ⟨⟨by have := q.1.1; omega, q.1.2⟩, q.2⟩
 have R1 : Hid (WoO (((((v3.setCell ⟨w.heap.size + 2, 3, none⟩ (.slice (some ⟨gd, 0, none⟩) s.l s.l)).setCell ⟨w.heap.size + 1, 0, none⟩ (.slice (some ⟨ga, 0, none⟩) s.n s.n)).setCell ⟨w.heap.size + 1, 1, none⟩ (.int .i64 s.t)).setCell ⟨w.heap.size + 1, 2, none⟩ (.slice (some ⟨gb, 0, none⟩) s.m s.m)).setCell ⟨w.heap.size + 1, 3, none⟩ (.slice (some ⟨gd, 0, none⟩) s.l s.l)) w.heap.size gb s.m s.W VB) := by
  have q := N1.out.keep O2.size (fun k h1 h2 => O2.block k h2 (by omega))
  exact ⟨⟨by have := q.1.1; omega, q.1.2⟩, q.2⟩
 have R2 : Hid (RoO (((((v3.setCell ⟨w.heap.size + 2, 3, none⟩ (.slice (some ⟨gd, 0, none⟩) s.l s.l)).setCell ⟨w.heap.size + 1, 0, none⟩ (.slice (some ⟨ga, 0, none⟩) s.n s.n)).setCell ⟨w.heap.size + 1, 1, none⟩ (.int .i64 s.t)).setCell ⟨w.heap.size + 1, 2, none⟩ (.slice (some ⟨gb, 0, none⟩) s.m s.m)).setCell ⟨w.heap.size + 1, 3, none⟩ (.slice (some ⟨gd, 0, none⟩) s.l s.l)) w.heap.size gd s.l s.Q VD) := by
  have q := N2.out.keep O2.size (fun k h1 h2 => O2.block k h2 (by omega))
  exact ⟨⟨by have := q.1.1; omega, q.1.2⟩, q.2⟩
 clear O1 O2 X Y Z N0 N1 N2 A1 SZ T0 T1 T2 HA G0 G1 G2
 go_wp2
 exact ret_cell (b := w.heap.size + 1) Try.results12 rfl (Box4.loadsv Y5.out) ⟨⟨ga, gb, gd, VA, VB, VD, rfl, R0.out, R1.out, R2.out, ⟨OA.out.1, OA.out.2, OB.out.1, OB.out.2⟩⟩, B5.out⟩
set_option maxRecDepth 100000 in
set_option maxHeartbeats 4000000 in
theorem markService_any (s : Sv) (ga gb gd B S : Nat) (VA VB VD : Nat → Nat) (hm : s.max 1048576) (w : World) (hA : RpO w B ga s.n s.R VA) (hB : WoO w B gb s.m s.W VB) (hD : RoO w B gd s.l s.Q VD) (od : OrdS s ga gb gd VA VB) (hS : gd < S ∧ ∀ j, j < s.l → VD j < S) (hSw : S ≤ w.heap.size) :
  Calls Try.prog 15 #[.agg #[.slice (some ⟨ga, 0, none⟩) s.n s.n, .int .i64 s.t, .slice (some ⟨gb, 0, none⟩) s.m s.m, .slice (some ⟨gd, 0, none⟩) s.l s.l], .int .i64 1] w fun e w' => (∃ k : Nat, e = .returned (.int .i64 (k : Int))) ∧ MidK B S w w' := by
 have b0 : Below w.heap.size w (w.alloc (.cells #[.slice (some ⟨ga, 0, none⟩) s.n s.n, .int .i64 s.t, .slice (some ⟨gb, 0, none⟩) s.m s.m, .slice (some ⟨gd, 0, none⟩) s.l s.l] 28)) := (Below.refl _ _).alloc (Nat.le_refl _) _
 have X : Hid (Box4 (w.alloc (.cells #[.slice (some ⟨ga, 0, none⟩) s.n s.n, .int .i64 s.t, .slice (some ⟨gb, 0, none⟩) s.m s.m, .slice (some ⟨gd, 0, none⟩) s.l s.l] 28)) w.heap.size 28 (.slice (some ⟨ga, 0, none⟩) s.n s.n) (.int .i64 s.t) (.slice (some ⟨gb, 0, none⟩) s.m s.m) (.slice (some ⟨gd, 0, none⟩) s.l s.l)) := Box4.madeAt rfl _ _ _ _ _
 have M0 : Hid (MidK B S w (w.alloc (.cells #[.slice (some ⟨ga, 0, none⟩) s.n s.n, .int .i64 s.t, .slice (some ⟨gb, 0, none⟩) s.m s.m, .slice (some ⟨gd, 0, none⟩) s.l s.l] 28))) := MidK.ofBelow b0
 have HA : Hid (RpO (w.alloc (.cells #[.slice (some ⟨ga, 0, none⟩) s.n s.n, .int .i64 s.t, .slice (some ⟨gb, 0, none⟩) s.m s.m, .slice (some ⟨gd, 0, none⟩) s.l s.l] 28)) B ga s.n s.R VA) := hA.below b0
 have HB : Hid (WoO (w.alloc (.cells #[.slice (some ⟨ga, 0, none⟩) s.n s.n, .int .i64 s.t, .slice (some ⟨gb, 0, none⟩) s.m s.m, .slice (some ⟨gd, 0, none⟩) s.l s.l] 28)) gb gb s.m s.W VB) := by have q := hB.below b0; exact ⟨⟨Nat.le_refl _, q.1.2⟩, q.2⟩
 have HD : Hid (RoO (w.alloc (.cells #[.slice (some ⟨ga, 0, none⟩) s.n s.n, .int .i64 s.t, .slice (some ⟨gb, 0, none⟩) s.m s.m, .slice (some ⟨gd, 0, none⟩) s.l s.l] 28)) gd gd s.l s.Q VD) := by have q := hD.below b0; exact ⟨⟨Nat.le_refl _, q.1.2⟩, q.2⟩
 have OD : Hid (OrdS s ga gb gd VA VB) := od
 have HS : Hid ((gd < S ∧ ∀ j, j < s.l → VD j < S) ∧ S ≤ w.heap.size ∧ B ≤ ga) := ⟨hS, hSw, hA.1.1⟩
 have R1 : Hid (∀ u : World, RpO u B ga s.n s.R VA → Calls Try.prog 43 #[.slice (some ⟨ga, 0, none⟩) s.n s.n, .int .i64 1] u fun e u' => (∃ k : Nat, e = .returned (.int .i64 (k : Int)) ∧ k ≤ 1 + s.n * 1048584) ∧ MidK ga gb u u') := fun u h => markReplicaS_any ga gb ga s.n s.n 1 VA (fun j => (s.R j).ne) _ hm.1.1 (by omega) ⟨Nat.le_refl _, od.a⟩ (fun i hi => ⟨(h.2.2 i hi).1, od.A i hi⟩) hm.1.2 (fun i hi => rfl) u h.2.1 (fun i hi => ⟨(s.R i).E, (h.2.2 i hi).2⟩)
 have R2 : Hid (∀ (K : Nat) (u : World), K ≤ 4000000000000 → WoO u gb gb s.m s.W VB → Calls Try.prog 44 #[.slice (some ⟨gb, 0, none⟩) s.m s.m, .int .i64 (K : Int)] u fun e u' => (∃ k : Nat, e = .returned (.int .i64 (k : Int)) ∧ k ≤ K + s.m * 1048584) ∧ MidK gb gd u u') := fun K u hK h => markWriteOpS_any gb gd gb s.m s.m K VB (fun j => (s.W j).ne) _ hm.2.1.1 hK ⟨Nat.le_refl _, od.b⟩ (fun i hi => ⟨(h.2.2 i hi).1, od.B i hi⟩) hm.2.1.2 (fun i hi => rfl) u h.2.1 (fun i hi => ⟨(s.W i).E, (h.2.2 i hi).2⟩)
 have R3 : Hid (∀ (K : Nat) (u : World), K ≤ 4000000000000 → RoO u gd gd s.l s.Q VD → Calls Try.prog 45 #[.slice (some ⟨gd, 0, none⟩) s.l s.l, .int .i64 (K : Int)] u fun e u' => (∃ k : Nat, e = .returned (.int .i64 (k : Int)) ∧ k ≤ K + s.l * 1048584) ∧ MidK gd S u u') := fun K u hK h => markReadOpS_any gd S gd s.l s.l K VD (fun j => (s.Q j).ne) _ hm.2.2.1 hK ⟨Nat.le_refl _, hS.1⟩ (fun i hi => ⟨(h.2.2 i hi).1, hS.2 i hi⟩) hm.2.2.2 (fun i hi => rfl) u h.2.1 (fun i hi => ⟨(s.Q i).E, (h.2.2 i hi).2⟩)
 have hnn : s.n ≤ 1048576 := hm.1.1
 have hmm : s.m ≤ 1048576 := hm.2.1.1
 clear b0 hA hB hD od hS hSw hm
 go_enter Try.func15, Try.ntmps15
 go_wp2_with fail
 generalize (w.alloc (.cells #[.slice (some ⟨ga, 0, none⟩) s.n s.n, .int .i64 s.t, .slice (some ⟨gb, 0, none⟩) s.m s.m, .slice (some ⟨gd, 0, none⟩) s.l s.l] 28)) = v at *
 refine (R1.out _ HA.out).mono ?_
 rintro e v1 ⟨⟨k1, rfl, hk1⟩, hM⟩
 have ho := OD.out
 have hs := HS.out
 replace M0 : Hid (MidK B S w v1) := M0.out.trans (hM.mono hs.2.2 (by have := ho.b; omega))
 replace X : Hid (Box4 v1 w.heap.size 28 (.slice (some ⟨ga, 0, none⟩) s.n s.n) (.int .i64 s.t) (.slice (some ⟨gb, 0, none⟩) s.m s.m) (.slice (some ⟨gd, 0, none⟩) s.l s.l)) := X.out.ofBlock (hM.block _ X.out.lt (.inr (by have := ho.b; omega)))
 replace HB : Hid (WoO v1 gb gb s.m s.W VB) := HB.out.keep hM.size (fun k h1 h2 => hM.block k h2 (.inr h1))
 replace HD : Hid (RoO v1 gd gd s.l s.Q VD) := HD.out.keep hM.size (fun k h1 h2 => hM.block k h2 (.inr (by have := ho.b; omega)))
 have x2 := X.out.c2
 have x3 := X.out.c3
 clear hM R1 HA ho hs
 go_wp2_with fail
 clear x2 x3
 refine (R2.out k1 _ (by omega) HB.out).mono ?_
 rintro e v2 ⟨⟨k2, rfl, hk2⟩, hM⟩
 have ho := OD.out
 have hs := HS.out
 replace M0 : Hid (MidK B S w v2) := M0.out.trans (hM.mono (by have := ho.a; omega) (by omega))
 replace X : Hid (Box4 v2 w.heap.size 28 (.slice (some ⟨ga, 0, none⟩) s.n s.n) (.int .i64 s.t) (.slice (some ⟨gb, 0, none⟩) s.m s.m) (.slice (some ⟨gd, 0, none⟩) s.l s.l)) := X.out.ofBlock (hM.block _ X.out.lt (.inr (by omega)))
 replace HD : Hid (RoO v2 gd gd s.l s.Q VD) := HD.out.keep hM.size (fun k h1 h2 => hM.block k h2 (.inr h1))
 have x3 := X.out.c3
 clear hM R2 HB ho hs
 go_wp2_with fail
 clear x3
 refine (R3.out k2 _ (by omega) HD.out).mono ?_
 rintro e v3 ⟨⟨k3, rfl, hk3⟩, hM⟩
 have ho := OD.out
 have hs := HS.out
 replace M0 : Hid (MidK B S w v3) := M0.out.trans (hM.mono (by have := ho.a; have := ho.b; omega) (Nat.le_refl _))
 clear hM R3 HD ho hs X OD HS hk1 hk2 hk3
 go_wp2
 go_ret
 exact ⟨⟨k3, rfl⟩, M0.out⟩
end Go.Proofs.Ytedncfcmhaaobaa
