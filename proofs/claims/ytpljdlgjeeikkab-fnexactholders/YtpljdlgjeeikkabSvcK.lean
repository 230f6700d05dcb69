/-
  Marks of the lists of a service of a call's own (written by tools/mksvk.py).
-/
import Derived.Test.YtpljdlgjeeikkabSvcJ
namespace Go.Proofs.Ytpljdlgjeeikkab
open Go.ChangeShapes Go.WideShapes Go.ChangeAt Go.RowKit
set_option linter.unusedVariables false
set_option linter.unusedSimpArgs false
/-- All blocks but those from B to S are as they were. -/
structure MidK (B S : Nat) (w w' : World) : Prop where
  os : w'.os = w.os
  tape : w'.tape = w.tape
  output : w'.output = w.output
  size : w.heap.size ≤ w'.heap.size
  block : ∀ k, k < w.heap.size → (k < B ∨ S ≤ k) → w'.heap[k]? = w.heap[k]?
theorem MidK.refl (B S : Nat) (w : World) : MidK B S w w := ⟨rfl, rfl, rfl, Nat.le_refl _, fun _ _ _ => rfl⟩
theorem MidK.trans {B S : Nat} {w w' w'' : World} (h : MidK B S w w') (k : MidK B S w' w'') : MidK B S w w'' :=
  ⟨k.os.trans h.os, k.tape.trans h.tape, k.output.trans h.output, Nat.le_trans h.size k.size, fun b h1 h2 => (k.block b (Nat.lt_of_lt_of_le h1 h.size) h2).trans (h.block b h1 h2)⟩
theorem MidK.ofB {B S g : Nat} {w w' : World} (h : OnlyB g w w') (h1 : B ≤ g) (h2 : g < S) : MidK B S w w' := ⟨h.os, h.tape, h.output, h.size, fun k hk hd => h.block k hk (by omega)⟩
theorem MidK.set {B S g : Nat} {w w' : World} (h : MidK B S w w') (h1 : B ≤ g) (h2 : g < S) (i : Nat) (v : Value) : MidK B S w (w'.setCell ⟨g, i, none⟩ v) := h.trans (MidK.ofB ((OnlyB.refl g w').setCell i v) h1 h2)
theorem MidK.toBelow {B S : Nat} {w w' : World} (h : MidK B S w w') (hB : B ≤ w.heap.size) : Below B w w' := ⟨h.os, h.tape, h.output, h.size, fun k hk => h.block k (by omega) (.inl hk)⟩
theorem rowIs_len {w : World} {b : Nat} {t : TypeId} {n m : Nat} {f g : Nat → Value} (h : w.rowIs b t n f) (h' : w.rowIs b t m g) : n = m := by
  obtain ⟨c, h1, h2, _⟩ := h
  obtain ⟨c', k1, k2, _⟩ := h'
  rw [h1] at k1
  cases k1
  omega
/-- Rows of numbers, whatever they hold. -/
def NumsI (w : World) (n : Nat) (V ne : Nat → Nat) : Prop := ∀ i, i < n → ∃ C : Nat → Int, w.rowIs (V i) 3 (ne i) (fun j => .int .i64 (C j))
theorem NumsI.turn {w w' : World} {n : Nat} {V ne : Nat → Nat} (h : NumsI w n V ne) {k : Nat} (hk : k < n) {C : Nat → Int} (hr : w'.rowIs (V k) 3 (ne k) (fun j => .int .i64 (C j))) (ho : OnlyB (V k) w w') : NumsI w' n V ne := fun i hi => by
  obtain ⟨E, hE⟩ := h i hi
  by_cases e : V i = V k
  · obtain ⟨G, hG⟩ := h k hk
    have := rowIs_len (by rw [← e] at hG; exact hG) hE
    refine ⟨C, ?_⟩
    rw [e, ← this]
    exact hr
  · exact ⟨E, hE.of_block (ho.block _ hE.lt e)⟩
theorem NumsI.set {w : World} {n : Nat} {V ne : Nat → Nat} (h : NumsI w n V ne) {g : Nat} (hg : ∀ i, i < n → g < V i) (i : Nat) (v : Value) : NumsI (w.setCell ⟨g, i, none⟩ v) n V ne := fun j hj => by
  obtain ⟨C, hC⟩ := h j hj
  exact ⟨C, hC.setOther (by have := hg j hj; show V j ≠ g; omega) v⟩
set_option maxRecDepth 100000 in
set_option maxHeartbeats 1000000 in
theorem markInt_any (V m c x : Nat) (C : Nat → Int) (hx : x ≤ 10000000000000) (hm : m ≤ 1048576) (w : World) (h : w.rowIs V 3 m (fun i => .int .i64 (C i))) :
    Calls Try.prog 16 #[.slice (some ⟨V, 0, none⟩) m c, .int .i64 (x : Int)] w fun e w' => e = .returned (.int .i64 ((x + m : Nat) : Int)) ∧ (∃ E : Nat → Int, w'.rowIs V 3 m (fun i => .int .i64 (E i))) ∧ OnlyB V w w' := by
  have H : Hid (w.rowIs V 3 m (fun i => .int .i64 (C i))) := h
  clear h
  go_enter Try.func16, Try.ntmps16
  go_wp2
  go_loopw [1, 5] (fun y i wr => ∃ (j : Nat) (E : Nat → Int), j ≤ m ∧ i = .int .i64 (j : Int) ∧ y = .int .i64 ((x + j : Nat) : Int) ∧ wr.rowIs V 3 m (fun i => .int .i64 (E i)) ∧ OnlyB V w wr) (fun _ i _ => m - (intOf i).toNat)
  case atStart => exact ⟨0, C, by omega, rfl, rfl, H.out, OnlyB.refl _ _⟩
  case round =>
    obtain ⟨j, E, hj, rfl, rfl, hr, ht⟩ := hrel
    by_cases hlt : j < m
    · have t0 := hr.cell hlt
      have t1 := hr.frozen j
      have R2 : Hid ((wr.setCell ⟨V, j, none⟩ (.int .i64 ((x + j : Nat) : Int))).rowIs V 3 m (fun i => .int .i64 (if i = j then ((x + j : Nat) : Int) else E i))) := (hr.set j (.int .i64 ((x + j : Nat) : Int))).congr (fun i hi => by by_cases e : i = j <;> simp [e])
      have T2 : Hid (OnlyB V w (wr.setCell ⟨V, j, none⟩ (.int .i64 ((x + j : Nat) : Int)))) := ht.setCell j _
      have hw : IntKind.i64.wrap (((x + j : Nat) : Int) + 1) = ((x + j : Nat) : Int) + 1 := IntWalk.i64_in _ (by omega)
      clear hr ht
      go_wp2
      go_roundw
      case rel => exact ⟨j + 1, _, by omega, by go_num, by go_num, R2.out, T2.out⟩
      case measure => simp [intOf]; omega
    · obtain rfl : j = m := by omega
      have R2 : Hid (∃ E : Nat → Int, wr.rowIs V 3 j (fun i => .int .i64 (E i))) := ⟨E, hr⟩
      have T2 : Hid (OnlyB V w wr) := ht
      clear hr ht
      go_wp2
      go_ret
      exact ⟨rfl, R2.out, T2.out⟩
set_option maxRecDepth 100000 in
set_option maxHeartbeats 4000000 in
theorem markReplicaS_any (B S g n c K : Nat) (V ne : Nat → Nat) (F : Nat → Nat → Value) (hn : n ≤ 1048576) (hK : K ≤ 4000000000000) (h0 : B ≤ g ∧ g < S) (hV : ∀ i, i < n → g < V i ∧ V i < S) (hne : ∀ i, i < n → ne i ≤ 1048576) (hF : ∀ i, i < n → F i 5 = .slice (some ⟨V i, 0, none⟩) (ne i) (ne i)) (w : World) (h : RowE w 8 (some ⟨g, 0, none⟩) g n F) (hN : NumsI w n V ne) :
    Calls Try.prog 40 #[.slice (some ⟨g, 0, none⟩) n c, .int .i64 (K : Int)] w fun e w' => (∃ k : Nat, e = .returned (.int .i64 (k : Int)) ∧ k ≤ K + n * 1048584) ∧ MidK B S w w' := by
  have H0 : Hid (RowE w 8 (some ⟨g, 0, none⟩) g n F) := h
  have HN : Hid (NumsI w n V ne) := hN
  have HF : Hid (∀ i, i < n → F i 5 = .slice (some ⟨V i, 0, none⟩) (ne i) (ne i)) := hF
  have HV : Hid (∀ i, i < n → g < V i ∧ V i < S) := hV
  have HE : Hid (∀ i, i < n → ne i ≤ 1048576) := hne
  have HG : Hid (B ≤ g ∧ g < S) := h0
  clear h hN hF hV hne h0
  go_enter Try.func40, Try.ntmps40
  go_wp2_with fail
  go_loopw [1, 5] (fun x i wr => ∃ (k q : Nat) (G : Nat → Nat → Value), k ≤ n ∧ i = .int .i64 (k : Int) ∧ x = .int .i64 (q : Int) ∧ q ≤ K + k * 1048584 ∧ RowE wr 8 (some ⟨g, 0, none⟩) g n G ∧ (∀ i, i < n → G i 5 = .slice (some ⟨V i, 0, none⟩) (ne i) (ne i)) ∧ NumsI wr n V ne ∧ MidK B S w wr) (fun _ i _ => n - (intOf i).toNat)
  case atStart => exact ⟨0, K, F, by omega, rfl, rfl, by omega, H0.out, HF.out, HN.out, MidK.refl _ _ _⟩
  case round =>
    obtain ⟨k, q, G, hk, rfl, rfl, hq, hr, hG, hN, hM⟩ := hrel
    by_cases hlt : k < n
    · have hlt' : (k : Int) < (n : Int) := by omega
      have hq9 : q ≤ 8000000000000 := by omega
      have hgk := HV.out k hlt
      have t0 := hr.c k hlt 0 (by omega)
      have z0 := hr.z (k * 8 + 0) (by omega)
      have t1 := hr.c k hlt 1 (by omega)
      have z1 := hr.z (k * 8 + 1) (by omega)
      have t2 := hr.c k hlt 2 (by omega)
      have z2 := hr.z (k * 8 + 2) (by omega)
      have t3 := hr.c k hlt 3 (by omega)
      have z3 := hr.z (k * 8 + 3) (by omega)
      have t4 := hr.c k hlt 4 (by omega)
      have z4 := hr.z (k * 8 + 4) (by omega)
      have t5 := hr.c k hlt 5 (by omega)
      have z5 := hr.z (k * 8 + 5) (by omega)
      have t6 := hr.c k hlt 6 (by omega)
      have z6 := hr.z (k * 8 + 6) (by omega)
      have t7 := hr.c k hlt 7 (by omega)
      have z7 := hr.z (k * 8 + 7) (by omega)
      rw [hG k hlt] at t5
      rw [Nat.add_zero] at t0 z0
      have R5 : Hid (RowE (((((wr.setCell ⟨g, k * 8, none⟩ (.bool ((q : Int) % 3 == 0))).setCell ⟨g, k * 8 + 1, none⟩ (.int .i64 ((q : Int) + 1))).setCell ⟨g, k * 8 + 1 + 1, none⟩ (.int .i64 ((q : Int) + 1 + 1))).setCell ⟨g, k * 8 + 3, none⟩ (.int .i64 ((q : Int) + 1 + 1 + 1))).setCell ⟨g, k * 8 + 3 + 1, none⟩ (.int .i64 ((q : Int) + 1 + 1 + 1 + 1))) 8 (some ⟨g, 0, none⟩) g n (setF (setF (setF (setF (setF G k 0 (.bool ((q : Int) % 3 == 0))) k 1 (.int .i64 ((q : Int) + 1))) k 2 (.int .i64 ((q : Int) + 1 + 1))) k 3 (.int .i64 ((q : Int) + 1 + 1 + 1))) k 4 (.int .i64 ((q : Int) + 1 + 1 + 1 + 1)))) := (((((hr.set k 0 (by omega) (.bool ((q : Int) % 3 == 0))).set k 1 (by omega) (.int .i64 ((q : Int) + 1))).set k 2 (by omega) (.int .i64 ((q : Int) + 1 + 1))).set k 3 (by omega) (.int .i64 ((q : Int) + 1 + 1 + 1))).set k 4 (by omega) (.int .i64 ((q : Int) + 1 + 1 + 1 + 1)))
      have G5 : Hid (∀ i, i < n → (setF (setF (setF (setF (setF G k 0 (.bool ((q : Int) % 3 == 0))) k 1 (.int .i64 ((q : Int) + 1))) k 2 (.int .i64 ((q : Int) + 1 + 1))) k 3 (.int .i64 ((q : Int) + 1 + 1 + 1))) k 4 (.int .i64 ((q : Int) + 1 + 1 + 1 + 1))) i 5 = .slice (some ⟨V i, 0, none⟩) (ne i) (ne i)) := fun i hi => by simp [setF, hG i hi]
      have M5 : Hid (MidK B S w (((((wr.setCell ⟨g, k * 8, none⟩ (.bool ((q : Int) % 3 == 0))).setCell ⟨g, k * 8 + 1, none⟩ (.int .i64 ((q : Int) + 1))).setCell ⟨g, k * 8 + 1 + 1, none⟩ (.int .i64 ((q : Int) + 1 + 1))).setCell ⟨g, k * 8 + 3, none⟩ (.int .i64 ((q : Int) + 1 + 1 + 1))).setCell ⟨g, k * 8 + 3 + 1, none⟩ (.int .i64 ((q : Int) + 1 + 1 + 1 + 1)))) := (((((hM.set HG.out.1 HG.out.2 (k * 8) _).set HG.out.1 HG.out.2 (k * 8 + 1) _).set HG.out.1 HG.out.2 (k * 8 + 1 + 1) _).set HG.out.1 HG.out.2 (k * 8 + 3) _).set HG.out.1 HG.out.2 (k * 8 + 3 + 1) _)
      have N5 : Hid (NumsI (((((wr.setCell ⟨g, k * 8, none⟩ (.bool ((q : Int) % 3 == 0))).setCell ⟨g, k * 8 + 1, none⟩ (.int .i64 ((q : Int) + 1))).setCell ⟨g, k * 8 + 1 + 1, none⟩ (.int .i64 ((q : Int) + 1 + 1))).setCell ⟨g, k * 8 + 3, none⟩ (.int .i64 ((q : Int) + 1 + 1 + 1))).setCell ⟨g, k * 8 + 3 + 1, none⟩ (.int .i64 ((q : Int) + 1 + 1 + 1 + 1))) n V ne) := (((((hN.set (fun i hi => (HV.out i hi).1) (k * 8) _).set (fun i hi => (HV.out i hi).1) (k * 8 + 1) _).set (fun i hi => (HV.out i hi).1) (k * 8 + 1 + 1) _).set (fun i hi => (HV.out i hi).1) (k * 8 + 3) _).set (fun i hi => (HV.out i hi).1) (k * 8 + 3 + 1) _)
      have x5 : ((q : Int) + 1 + 1 + 1 + 1 + 1) = ((q + 5 : Nat) : Int) := by omega
      have X5 : Hid (((q : Int) + 1 + 1 + 1 + 1 + 1) = ((q + 5 : Nat) : Int)) := x5
      have HQ : Hid (q ≤ K + k * 1048584) := hq
      clear hr hG hN hM x5 hq hgk
      go_wp2_with fail
      generalize (((((wr.setCell ⟨g, k * 8, none⟩ (.bool ((q : Int) % 3 == 0))).setCell ⟨g, k * 8 + 1, none⟩ (.int .i64 ((q : Int) + 1))).setCell ⟨g, k * 8 + 1 + 1, none⟩ (.int .i64 ((q : Int) + 1 + 1))).setCell ⟨g, k * 8 + 3, none⟩ (.int .i64 ((q : Int) + 1 + 1 + 1))).setCell ⟨g, k * 8 + 3 + 1, none⟩ (.int .i64 ((q : Int) + 1 + 1 + 1 + 1))) = w5 at *
      generalize (setF (setF (setF (setF (setF G k 0 (.bool ((q : Int) % 3 == 0))) k 1 (.int .i64 ((q : Int) + 1))) k 2 (.int .i64 ((q : Int) + 1 + 1))) k 3 (.int .i64 ((q : Int) + 1 + 1 + 1))) k 4 (.int .i64 ((q : Int) + 1 + 1 + 1 + 1))) = G5f at *
      rw [X5.out]
      obtain ⟨C, hC⟩ := N5.out k hlt
      refine (markInt_any (V k) (ne k) (ne k) (q + 5) C (by omega) (HE.out k hlt) w5 hC).mono ?_
      rintro e w1 ⟨rfl, ⟨E, hE⟩, ho⟩
      have N6 : Hid (NumsI w1 n V ne) := N5.out.turn hlt hE ho
      have M6 : Hid (MidK B S w w1) := M5.out.trans (MidK.ofB ho (by have := HV.out k hlt; have := HG.out; omega) (HV.out k hlt).2)
      have R6 : RowE w1 8 (some ⟨g, 0, none⟩) g n G5f := R5.out.onlyB (by omega) ho (fun _ => by have := (HV.out k hlt).1; omega)
      have hne := HE.out k hlt
      obtain ⟨y, hy⟩ : ∃ y : Nat, y = q + 5 + ne k := ⟨_, rfl⟩
      rw [← hy]
      have HY : Hid (y = q + 5 + ne k) := hy
      have y9 : y ≤ 8000010000000 := by omega
      clear hy hne hC hE ho N5 M5 t0 z0 t1 z1 t2 z2 t3 z3 t4 z4 t5 z5 t6 z6 t7 z7
      have s6 := R6.c k hlt 6 (by omega)
      have u6 := R6.z (k * 8 + 6) (by omega)
      have s7 := R6.c k hlt 7 (by omega)
      have u7 := R6.z (k * 8 + 7) (by omega)
      have R7 : Hid (RowE ((w1.setCell ⟨g, k * 8 + 6, none⟩ (.int .i64 ((y : Int)))).setCell ⟨g, k * 8 + 6 + 1, none⟩ (.int .i64 ((y : Int) + 1))) 8 (some ⟨g, 0, none⟩) g n (setF (setF G5f k 6 (.int .i64 ((y : Int)))) k 7 (.int .i64 ((y : Int) + 1)))) := ((R6.set k 6 (by omega) (.int .i64 ((y : Int)))).set k 7 (by omega) (.int .i64 ((y : Int) + 1)))
      have G7 : Hid (∀ i, i < n → (setF (setF G5f k 6 (.int .i64 ((y : Int)))) k 7 (.int .i64 ((y : Int) + 1))) i 5 = .slice (some ⟨V i, 0, none⟩) (ne i) (ne i)) := fun i hi => by simp [setF, G5.out i hi]
      have M7 : Hid (MidK B S w ((w1.setCell ⟨g, k * 8 + 6, none⟩ (.int .i64 ((y : Int)))).setCell ⟨g, k * 8 + 6 + 1, none⟩ (.int .i64 ((y : Int) + 1)))) := ((M6.out.set HG.out.1 HG.out.2 (k * 8 + 6) _).set HG.out.1 HG.out.2 (k * 8 + 6 + 1) _)
      have N7 : Hid (NumsI ((w1.setCell ⟨g, k * 8 + 6, none⟩ (.int .i64 ((y : Int)))).setCell ⟨g, k * 8 + 6 + 1, none⟩ (.int .i64 ((y : Int) + 1))) n V ne) := ((N6.out.set (fun i hi => (HV.out i hi).1) (k * 8 + 6) _).set (fun i hi => (HV.out i hi).1) (k * 8 + 6 + 1) _)
      clear R6 R5 M6 N6 G5
      go_wp2
      go_roundw
      case rel => exact ⟨k + 1, y + 2, _, by omega, by go_num, by go_num, by have := HY.out; have := HQ.out; have := HE.out k hlt; omega, R7.out, G7.out, N7.out, M7.out⟩
      case measure => simp [intOf]; omega
    · obtain rfl : k = n := by omega
      have hlt' : ¬ (k : Int) < (k : Int) := by omega
      have M2 : Hid (MidK B S w wr) := hM
      have HQ : Hid (q ≤ K + k * 1048584) := hq
      clear hr hG hN hM hq
      go_wp2
      go_ret
      exact ⟨⟨q, rfl, HQ.out⟩, M2.out⟩
set_option maxRecDepth 100000 in
set_option maxHeartbeats 4000000 in
theorem markWriteOpS_any (B S g n c K : Nat) (V ne : Nat → Nat) (F : Nat → Nat → Value) (hn : n ≤ 1048576) (hK : K ≤ 4000000000000) (h0 : B ≤ g ∧ g < S) (hV : ∀ i, i < n → g < V i ∧ V i < S) (hne : ∀ i, i < n → ne i ≤ 1048576) (hF : ∀ i, i < n → F i 2 = .slice (some ⟨V i, 0, none⟩) (ne i) (ne i)) (w : World) (h : RowE w 5 (some ⟨g, 0, none⟩) g n F) (hN : NumsI w n V ne) :
    Calls Try.prog 41 #[.slice (some ⟨g, 0, none⟩) n c, .int .i64 (K : Int)] w fun e w' => (∃ k : Nat, e = .returned (.int .i64 (k : Int)) ∧ k ≤ K + n * 1048584) ∧ MidK B S w w' := by
  have H0 : Hid (RowE w 5 (some ⟨g, 0, none⟩) g n F) := h
  have HN : Hid (NumsI w n V ne) := hN
  have HF : Hid (∀ i, i < n → F i 2 = .slice (some ⟨V i, 0, none⟩) (ne i) (ne i)) := hF
  have HV : Hid (∀ i, i < n → g < V i ∧ V i < S) := hV
  have HE : Hid (∀ i, i < n → ne i ≤ 1048576) := hne
  have HG : Hid (B ≤ g ∧ g < S) := h0
  clear h hN hF hV hne h0
  go_enter Try.func41, Try.ntmps41
  go_wp2_with fail
  go_loopw [1, 5] (fun x i wr => ∃ (k q : Nat) (G : Nat → Nat → Value), k ≤ n ∧ i = .int .i64 (k : Int) ∧ x = .int .i64 (q : Int) ∧ q ≤ K + k * 1048584 ∧ RowE wr 5 (some ⟨g, 0, none⟩) g n G ∧ (∀ i, i < n → G i 2 = .slice (some ⟨V i, 0, none⟩) (ne i) (ne i)) ∧ NumsI wr n V ne ∧ MidK B S w wr) (fun _ i _ => n - (intOf i).toNat)
  case atStart => exact ⟨0, K, F, by omega, rfl, rfl, by omega, H0.out, HF.out, HN.out, MidK.refl _ _ _⟩
  case round =>
    obtain ⟨k, q, G, hk, rfl, rfl, hq, hr, hG, hN, hM⟩ := hrel
    by_cases hlt : k < n
    · have hlt' : (k : Int) < (n : Int) := by omega
      have hq9 : q ≤ 8000000000000 := by omega
      have hgk := HV.out k hlt
      have t0 := hr.c k hlt 0 (by omega)
      have z0 := hr.z (k * 5 + 0) (by omega)
      have t1 := hr.c k hlt 1 (by omega)
      have z1 := hr.z (k * 5 + 1) (by omega)
      have t2 := hr.c k hlt 2 (by omega)
      have z2 := hr.z (k * 5 + 2) (by omega)
      have t3 := hr.c k hlt 3 (by omega)
      have z3 := hr.z (k * 5 + 3) (by omega)
      have t4 := hr.c k hlt 4 (by omega)
      have z4 := hr.z (k * 5 + 4) (by omega)
      rw [hG k hlt] at t2
      rw [Nat.add_zero] at t0 z0
      have R5 : Hid (RowE ((wr.setCell ⟨g, k * 5, none⟩ (.int .i64 ((q : Int)))).setCell ⟨g, k * 5 + 1, none⟩ (.int .i64 ((q : Int) + 1))) 5 (some ⟨g, 0, none⟩) g n (setF (setF G k 0 (.int .i64 ((q : Int)))) k 1 (.int .i64 ((q : Int) + 1)))) := ((hr.set k 0 (by omega) (.int .i64 ((q : Int)))).set k 1 (by omega) (.int .i64 ((q : Int) + 1)))
      have G5 : Hid (∀ i, i < n → (setF (setF G k 0 (.int .i64 ((q : Int)))) k 1 (.int .i64 ((q : Int) + 1))) i 2 = .slice (some ⟨V i, 0, none⟩) (ne i) (ne i)) := fun i hi => by simp [setF, hG i hi]
      have M5 : Hid (MidK B S w ((wr.setCell ⟨g, k * 5, none⟩ (.int .i64 ((q : Int)))).setCell ⟨g, k * 5 + 1, none⟩ (.int .i64 ((q : Int) + 1)))) := ((hM.set HG.out.1 HG.out.2 (k * 5) _).set HG.out.1 HG.out.2 (k * 5 + 1) _)
      have N5 : Hid (NumsI ((wr.setCell ⟨g, k * 5, none⟩ (.int .i64 ((q : Int)))).setCell ⟨g, k * 5 + 1, none⟩ (.int .i64 ((q : Int) + 1))) n V ne) := ((hN.set (fun i hi => (HV.out i hi).1) (k * 5) _).set (fun i hi => (HV.out i hi).1) (k * 5 + 1) _)
      have x5 : ((q : Int) + 1 + 1) = ((q + 2 : Nat) : Int) := by omega
      have X5 : Hid (((q : Int) + 1 + 1) = ((q + 2 : Nat) : Int)) := x5
      have HQ : Hid (q ≤ K + k * 1048584) := hq
      clear hr hG hN hM x5 hq hgk
      go_wp2_with fail
      generalize ((wr.setCell ⟨g, k * 5, none⟩ (.int .i64 ((q : Int)))).setCell ⟨g, k * 5 + 1, none⟩ (.int .i64 ((q : Int) + 1))) = w5 at *
      generalize (setF (setF G k 0 (.int .i64 ((q : Int)))) k 1 (.int .i64 ((q : Int) + 1))) = G5f at *
      rw [X5.out]
      obtain ⟨C, hC⟩ := N5.out k hlt
      refine (markInt_any (V k) (ne k) (ne k) (q + 2) C (by omega) (HE.out k hlt) w5 hC).mono ?_
      rintro e w1 ⟨rfl, ⟨E, hE⟩, ho⟩
      have N6 : Hid (NumsI w1 n V ne) := N5.out.turn hlt hE ho
      have M6 : Hid (MidK B S w w1) := M5.out.trans (MidK.ofB ho (by have := HV.out k hlt; have := HG.out; omega) (HV.out k hlt).2)
      have R6 : RowE w1 5 (some ⟨g, 0, none⟩) g n G5f := R5.out.onlyB (by omega) ho (fun _ => by have := (HV.out k hlt).1; omega)
      have hne := HE.out k hlt
      obtain ⟨y, hy⟩ : ∃ y : Nat, y = q + 2 + ne k := ⟨_, rfl⟩
      rw [← hy]
      have HY : Hid (y = q + 2 + ne k) := hy
      have y9 : y ≤ 8000010000000 := by omega
      clear hy hne hC hE ho N5 M5 t0 z0 t1 z1 t2 z2 t3 z3 t4 z4
      have s3 := R6.c k hlt 3 (by omega)
      have u3 := R6.z (k * 5 + 3) (by omega)
      have s4 := R6.c k hlt 4 (by omega)
      have u4 := R6.z (k * 5 + 4) (by omega)
      have R7 : Hid (RowE ((w1.setCell ⟨g, k * 5 + 3, none⟩ (.int .i64 ((y : Int)))).setCell ⟨g, k * 5 + 4, none⟩ (.int .i64 ((y : Int) + 1))) 5 (some ⟨g, 0, none⟩) g n (setF (setF G5f k 3 (.int .i64 ((y : Int)))) k 4 (.int .i64 ((y : Int) + 1)))) := ((R6.set k 3 (by omega) (.int .i64 ((y : Int)))).set k 4 (by omega) (.int .i64 ((y : Int) + 1)))
      have G7 : Hid (∀ i, i < n → (setF (setF G5f k 3 (.int .i64 ((y : Int)))) k 4 (.int .i64 ((y : Int) + 1))) i 2 = .slice (some ⟨V i, 0, none⟩) (ne i) (ne i)) := fun i hi => by simp [setF, G5.out i hi]
      have M7 : Hid (MidK B S w ((w1.setCell ⟨g, k * 5 + 3, none⟩ (.int .i64 ((y : Int)))).setCell ⟨g, k * 5 + 4, none⟩ (.int .i64 ((y : Int) + 1)))) := ((M6.out.set HG.out.1 HG.out.2 (k * 5 + 3) _).set HG.out.1 HG.out.2 (k * 5 + 4) _)
      have N7 : Hid (NumsI ((w1.setCell ⟨g, k * 5 + 3, none⟩ (.int .i64 ((y : Int)))).setCell ⟨g, k * 5 + 4, none⟩ (.int .i64 ((y : Int) + 1))) n V ne) := ((N6.out.set (fun i hi => (HV.out i hi).1) (k * 5 + 3) _).set (fun i hi => (HV.out i hi).1) (k * 5 + 4) _)
      clear R6 R5 M6 N6 G5
      go_wp2
      go_roundw
      case rel => exact ⟨k + 1, y + 2, _, by omega, by go_num, by go_num, by have := HY.out; have := HQ.out; have := HE.out k hlt; omega, R7.out, G7.out, N7.out, M7.out⟩
      case measure => simp [intOf]; omega
    · obtain rfl : k = n := by omega
      have hlt' : ¬ (k : Int) < (k : Int) := by omega
      have M2 : Hid (MidK B S w wr) := hM
      have HQ : Hid (q ≤ K + k * 1048584) := hq
      clear hr hG hN hM hq
      go_wp2
      go_ret
      exact ⟨⟨q, rfl, HQ.out⟩, M2.out⟩
set_option maxRecDepth 100000 in
set_option maxHeartbeats 4000000 in
theorem markReadOpS_any (B S g n c K : Nat) (V ne : Nat → Nat) (F : Nat → Nat → Value) (hn : n ≤ 1048576) (hK : K ≤ 4000000000000) (h0 : B ≤ g ∧ g < S) (hV : ∀ i, i < n → g < V i ∧ V i < S) (hne : ∀ i, i < n → ne i ≤ 1048576) (hF : ∀ i, i < n → F i 0 = .slice (some ⟨V i, 0, none⟩) (ne i) (ne i)) (w : World) (h : RowE w 5 (some ⟨g, 0, none⟩) g n F) (hN : NumsI w n V ne) :
    Calls Try.prog 42 #[.slice (some ⟨g, 0, none⟩) n c, .int .i64 (K : Int)] w fun e w' => (∃ k : Nat, e = .returned (.int .i64 (k : Int)) ∧ k ≤ K + n * 1048584) ∧ MidK B S w w' := by
  have H0 : Hid (RowE w 5 (some ⟨g, 0, none⟩) g n F) := h
  have HN : Hid (NumsI w n V ne) := hN
  have HF : Hid (∀ i, i < n → F i 0 = .slice (some ⟨V i, 0, none⟩) (ne i) (ne i)) := hF
  have HV : Hid (∀ i, i < n → g < V i ∧ V i < S) := hV
  have HE : Hid (∀ i, i < n → ne i ≤ 1048576) := hne
  have HG : Hid (B ≤ g ∧ g < S) := h0
  clear h hN hF hV hne h0
  go_enter Try.func42, Try.ntmps42
  go_wp2_with fail
  go_loopw [1, 5] (fun x i wr => ∃ (k q : Nat) (G : Nat → Nat → Value), k ≤ n ∧ i = .int .i64 (k : Int) ∧ x = .int .i64 (q : Int) ∧ q ≤ K + k * 1048584 ∧ RowE wr 5 (some ⟨g, 0, none⟩) g n G ∧ (∀ i, i < n → G i 0 = .slice (some ⟨V i, 0, none⟩) (ne i) (ne i)) ∧ NumsI wr n V ne ∧ MidK B S w wr) (fun _ i _ => n - (intOf i).toNat)
  case atStart => exact ⟨0, K, F, by omega, rfl, rfl, by omega, H0.out, HF.out, HN.out, MidK.refl _ _ _⟩
  case round =>
    obtain ⟨k, q, G, hk, rfl, rfl, hq, hr, hG, hN, hM⟩ := hrel
    by_cases hlt : k < n
    · have hlt' : (k : Int) < (n : Int) := by omega
      have hq9 : q ≤ 8000000000000 := by omega
      have hgk := HV.out k hlt
      have t0 := hr.c k hlt 0 (by omega)
      have z0 := hr.z (k * 5 + 0) (by omega)
      have t1 := hr.c k hlt 1 (by omega)
      have z1 := hr.z (k * 5 + 1) (by omega)
      have t2 := hr.c k hlt 2 (by omega)
      have z2 := hr.z (k * 5 + 2) (by omega)
      have t3 := hr.c k hlt 3 (by omega)
      have z3 := hr.z (k * 5 + 3) (by omega)
      have t4 := hr.c k hlt 4 (by omega)
      have z4 := hr.z (k * 5 + 4) (by omega)
      rw [hG k hlt] at t0
      rw [Nat.add_zero] at t0 z0
      have R5 : Hid (RowE wr 5 (some ⟨g, 0, none⟩) g n G) := hr
      have G5 : Hid (∀ i, i < n → G i 0 = .slice (some ⟨V i, 0, none⟩) (ne i) (ne i)) := fun i hi => by simp [setF, hG i hi]
      have M5 : Hid (MidK B S w wr) := hM
      have N5 : Hid (NumsI wr n V ne) := hN
      have x5 : ((q : Int)) = ((q + 0 : Nat) : Int) := by omega
      have X5 : Hid (((q : Int)) = ((q + 0 : Nat) : Int)) := x5
      have HQ : Hid (q ≤ K + k * 1048584) := hq
      clear hr hG hN hM x5 hq hgk
      go_wp2_with fail
      generalize wr = w5 at *
      generalize G = G5f at *
      skip
      obtain ⟨C, hC⟩ := N5.out k hlt
      refine (markInt_any (V k) (ne k) (ne k) (q) C (by omega) (HE.out k hlt) w5 hC).mono ?_
      rintro e w1 ⟨rfl, ⟨E, hE⟩, ho⟩
      have N6 : Hid (NumsI w1 n V ne) := N5.out.turn hlt hE ho
      have M6 : Hid (MidK B S w w1) := M5.out.trans (MidK.ofB ho (by have := HV.out k hlt; have := HG.out; omega) (HV.out k hlt).2)
      have R6 : RowE w1 5 (some ⟨g, 0, none⟩) g n G5f := R5.out.onlyB (by omega) ho (fun _ => by have := (HV.out k hlt).1; omega)
      have hne := HE.out k hlt
      obtain ⟨y, hy⟩ : ∃ y : Nat, y = q + ne k := ⟨_, rfl⟩
      rw [← hy]
      have HY : Hid (y = q + ne k) := hy
      have y9 : y ≤ 8000010000000 := by omega
      clear hy hne hC hE ho N5 M5 t0 z0 t1 z1 t2 z2 t3 z3 t4 z4
      have s1 := R6.c k hlt 1 (by omega)
      have u1 := R6.z (k * 5 + 1) (by omega)
      have s2 := R6.c k hlt 2 (by omega)
      have u2 := R6.z (k * 5 + 2) (by omega)
      have s3 := R6.c k hlt 3 (by omega)
      have u3 := R6.z (k * 5 + 3) (by omega)
      have s4 := R6.c k hlt 4 (by omega)
      have u4 := R6.z (k * 5 + 4) (by omega)
      have R7 : Hid (RowE ((((w1.setCell ⟨g, k * 5 + 1, none⟩ (.int .i64 ((y : Int)))).setCell ⟨g, k * 5 + 1 + 1, none⟩ (.int .i64 ((y : Int) + 1))).setCell ⟨g, k * 5 + 3, none⟩ (.int .i64 ((y : Int) + 1 + 1))).setCell ⟨g, k * 5 + 4, none⟩ (.int .i64 ((y : Int) + 1 + 1 + 1))) 5 (some ⟨g, 0, none⟩) g n (setF (setF (setF (setF G5f k 1 (.int .i64 ((y : Int)))) k 2 (.int .i64 ((y : Int) + 1))) k 3 (.int .i64 ((y : Int) + 1 + 1))) k 4 (.int .i64 ((y : Int) + 1 + 1 + 1)))) := ((((R6.set k 1 (by omega) (.int .i64 ((y : Int)))).set k 2 (by omega) (.int .i64 ((y : Int) + 1))).set k 3 (by omega) (.int .i64 ((y : Int) + 1 + 1))).set k 4 (by omega) (.int .i64 ((y : Int) + 1 + 1 + 1)))
      have G7 : Hid (∀ i, i < n → (setF (setF (setF (setF G5f k 1 (.int .i64 ((y : Int)))) k 2 (.int .i64 ((y : Int) + 1))) k 3 (.int .i64 ((y : Int) + 1 + 1))) k 4 (.int .i64 ((y : Int) + 1 + 1 + 1))) i 0 = .slice (some ⟨V i, 0, none⟩) (ne i) (ne i)) := fun i hi => by simp [setF, G5.out i hi]
      have M7 : Hid (MidK B S w ((((w1.setCell ⟨g, k * 5 + 1, none⟩ (.int .i64 ((y : Int)))).setCell ⟨g, k * 5 + 1 + 1, none⟩ (.int .i64 ((y : Int) + 1))).setCell ⟨g, k * 5 + 3, none⟩ (.int .i64 ((y : Int) + 1 + 1))).setCell ⟨g, k * 5 + 4, none⟩ (.int .i64 ((y : Int) + 1 + 1 + 1)))) := ((((M6.out.set HG.out.1 HG.out.2 (k * 5 + 1) _).set HG.out.1 HG.out.2 (k * 5 + 1 + 1) _).set HG.out.1 HG.out.2 (k * 5 + 3) _).set HG.out.1 HG.out.2 (k * 5 + 4) _)
      have N7 : Hid (NumsI ((((w1.setCell ⟨g, k * 5 + 1, none⟩ (.int .i64 ((y : Int)))).setCell ⟨g, k * 5 + 1 + 1, none⟩ (.int .i64 ((y : Int) + 1))).setCell ⟨g, k * 5 + 3, none⟩ (.int .i64 ((y : Int) + 1 + 1))).setCell ⟨g, k * 5 + 4, none⟩ (.int .i64 ((y : Int) + 1 + 1 + 1))) n V ne) := ((((N6.out.set (fun i hi => (HV.out i hi).1) (k * 5 + 1) _).set (fun i hi => (HV.out i hi).1) (k * 5 + 1 + 1) _).set (fun i hi => (HV.out i hi).1) (k * 5 + 3) _).set (fun i hi => (HV.out i hi).1) (k * 5 + 4) _)
      clear R6 R5 M6 N6 G5
      go_wp2
      go_roundw
      case rel => exact ⟨k + 1, y + 4, _, by omega, by go_num, by go_num, by have := HY.out; have := HQ.out; have := HE.out k hlt; omega, R7.out, G7.out, N7.out, M7.out⟩
      case measure => simp [intOf]; omega
    · obtain rfl : k = n := by omega
      have hlt' : ¬ (k : Int) < (k : Int) := by omega
      have M2 : Hid (MidK B S w wr) := hM
      have HQ : Hid (q ≤ K + k * 1048584) := hq
      clear hr hG hN hM hq
      go_wp2
      go_ret
      exact ⟨⟨q, rfl, HQ.out⟩, M2.out⟩
end Go.Proofs.Ytpljdlgjeeikkab
