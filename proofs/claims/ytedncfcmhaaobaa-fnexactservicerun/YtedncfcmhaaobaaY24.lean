/-
  Texts of the proof, joined: InsG, InsI, InsJ.
-/
import Derived.Test.YtedncfcmhaaobaaY03
import Derived.Laws.CopyRow
import Derived.Lib.AppendZerosOnto
import Derived.Lib.Overlaps
import Derived.Laws.NewBlocks
import Derived.Shelf.Spec.SlicesInsert
import Derived.Test.YtedncfcmhaaobaaY04
import Derived.Lib.SliceRun
import Derived.Lib.AppendZeros
import Derived.Shelf.RegionOpenPlain
import Derived.Laws.Externs
import Derived.WalkKit
namespace Go.Proofs.Ytedncfcmhaaobaa
open Go.ChangeShapes Go.WideShapes Go.ChangeAt Go.RowKit
set_option linter.unusedVariables false
theorem copy_rowS {P : Program} (w : World) (dT sT ty elem : TypeId) (g o dLen dCap : Nat) (a : Addr) (sLen sCap : Nat) (cur : Array Value) (t : TypeId) (cs : List Value) (s : Nat)
  (hu : P.underlying dT = some (.slice elem)) (hs : (P.info? elem).map (·.size) = some s)
  (hg : w.heap[g]? = some (.cells cur t (0, 0))) (hn : cs.length = Nat.min sLen dLen * s)
  (hsrc : ∀ j v, cs[j]? = some v → w.cell? (a.add j) = some v) (hfit : o + cs.length ≤ cur.size) (h1 : ∀ v ∈ cs, v.oneCell' = true) :
  (Builtin.copy_ #[dT, sT] ty #[.slice (some ⟨g, o, none⟩) dLen dCap, .slice (some a) sLen sCap]).run P w =
   .ok (goInt (Nat.min sLen dLen)) (w.setRow g (cur.toList.take o ++ cs ++ cur.toList.drop (o + cs.length)).toArray) := by
 have hl := run_loadCells_list (P := P) w a cs hsrc
 have hst := run_storeCells_at P g o t cs 0 cur w hg (by simpa using hfit) h1
 cases hq : P.info? elem with
 | none => simp [hq] at hs
 | some i =>
  have hi : i.size = s := by simpa [hq] using hs
  simp [Builtin.copy_, run_underlying hu, Builtin.lenOf, Builtin.firstCells, sizeOf, typeInfo, hq, hi, ← hn, hl, hst]
theorem elv_ins (s n k : Nat) (F G : Nat → Nat → Value) (X : List Value) (hk : k ≤ n) (h0 : ∀ i, i < k → G i = F i) (h1 : (List.range s).map (G k) = X) (h2 : ∀ i, k ≤ i → G (i + 1) = F i) :
  elv s (n + 1) G = elv s k F ++ X ++ elv s (n - k) (fun i => F (k + i)) := by
 have e := elv_cat s (k + 1) G (fun i => F (k + i)) G (fun _ _ => rfl) (fun i => by
  rw [show k + 1 + i = k + i + 1 by omega]; exact h2 (k + i) (by omega)) (n - k)
 rw [show k + 1 + (n - k) = n + 1 by omega] at e
 rw [e, elv_snoc, h1, elv_congr (G := F) (fun i hi j _ => by rw [h0 i hi])]
theorem elv_parts (s n k : Nat) (F : Nat → Nat → Value) (hk : k ≤ n) : elv s n F = elv s k F ++ elv s (n - k) (fun i => F (k + i)) := by
 have e := elv_cat s k F (fun i => F (k + i)) F (fun _ _ => rfl) (fun i => rfl) (n - k)
 rwa [show k + (n - k) = n by omega] at e
theorem shift_list (L A X M : List Value) (a s m c : Nat) (hA : A.length = a) (hX : X.length = s) (hM : M.length = m) (hL : L.take (a + m) = A ++ M) (hc : a + s + m ≤ L.length) :
  (((L.take (a + s) ++ M ++ L.drop (a + s + M.length)).take a ++ X ++ (L.take (a + s) ++ M ++ L.drop (a + s + M.length)).drop (a + X.length))).take (a + s + m) = A ++ X ++ M := by
 have hA' : L.take a = A := by
  have h1 : (A ++ M).take a = A := by rw [List.take_append_of_le_length (by omega), List.take_of_length_le (by omega)]
  rw [← h1, ← hL, List.take_take, Nat.min_eq_left (by omega)]
 have e1 : (L.take (a + s) ++ M ++ L.drop (a + s + M.length)).take a = A := by
  rw [List.append_assoc, List.take_append_of_le_length (by rw [List.length_take]; omega), List.take_take, Nat.min_eq_left (by omega), hA']
 have e2 : (L.take (a + s) ++ M ++ L.drop (a + s + M.length)).drop (a + X.length) = M ++ L.drop (a + s + M.length) := by
  rw [List.append_assoc, List.drop_append_of_le_length (by rw [List.length_take]; omega), List.drop_of_length_le (by rw [List.length_take]; omega), List.nil_append]
 rw [e1, e2, ← List.append_assoc, List.take_append_of_le_length (by simp; omega), List.take_of_length_le (by simp; omega)]
theorem shift_length (L M X : List Value) (a s : Nat) (hX : X.length = s) (hc : a + s + M.length ≤ L.length) :
  ((L.take (a + s) ++ M ++ L.drop (a + s + M.length)).take a ++ X ++ (L.take (a + s) ++ M ++ L.drop (a + s + M.length)).drop (a + X.length)).length = L.length := by
 simp [hX]
 omega
def insRow (cur : Array Value) (a s : Nat) (X M : List Value) : Array Value := ((cur.toList.take (a + s) ++ M ++ cur.toList.drop (a + s + M.length)).take a ++ X ++ (cur.toList.take (a + s) ++ M ++ cur.toList.drop (a + s + M.length)).drop (a + X.length)).toArray
def mvRow (cur : Array Value) (a s : Nat) (M : List Value) : Array Value := (cur.toList.take (a + s) ++ M ++ cur.toList.drop (a + s + M.length)).toArray
theorem ins_shift {P : Program} (w : World) (B T e : Nat) (s n c k : Nat) (g : Nat) (F G : Nat → Nat → Value) (X : List Value) (vb : Nat)
  (hu : P.underlying T = some (.slice e)) (hs : (P.info? e).map (·.size) = some s) (h : EO w B e s (.slice (some ⟨g, 0, none⟩) n c) n F) (hk : k < n) (hnc : n + 1 ≤ c)
  (h0 : ∀ i, i < k → G i = F i) (hX : (List.range s).map (G k) = X) (h2 : ∀ i, k ≤ i → G (i + 1) = F i)
  (hv : ∀ j u, X[j]? = some u → w.cell? ⟨vb, j, none⟩ = some u) (hvb : vb ≠ g) (o1 : ∀ u ∈ X, u.oneCell' = true) (o2 : ∀ i j, (F i j).oneCell' = true) :
  ∃ W1 W2 : World, (∀ ty dc sc, (Builtin.copy_ #[T, T] ty #[.slice (some ⟨g, (k + 1) * s, none⟩) (n + 1 - (k + 1)) dc, .slice (some ⟨g, k * s, none⟩) (n + 1 - k) sc]).run P w = .ok (goInt ((n - k : Nat) : Int)) W1) ∧
   (∀ ty dc, (Builtin.copy_ #[T, T] ty #[.slice (some ⟨g, k * s, none⟩) (n + 1 - k) dc, .slice (some ⟨vb, 0, none⟩) 1 1]).run P W1 = .ok (goInt 1) W2) ∧
   EO W2 B e s (.slice (some ⟨g, 0, none⟩) (n + 1) c) (n + 1) G ∧ w.grownBy W2 (some g) ∧ W2.heap.size = w.heap.size := by
 obtain ⟨hl, ⟨h1, _⟩ | ⟨g', cap, cur, hv', hB, hh, hn, hm, hsz, ht⟩⟩ := h
 ·cases h1
 cases hv'
 have hM : (elv s (n - k) (fun i => F (k + i))).length = (n - k) * s := elv_length _ _ _
 have hA : (elv s k F).length = k * s := elv_length _ _ _
 have hXl : X.length = s := by rw [← hX]; simp
 have en : n * s = k * s + (n - k) * s := by rw [← Nat.add_mul, Nat.add_sub_of_le (by omega)]
 have eN : (n + 1) * s = k * s + s + (n - k) * s := by rw [Nat.add_mul, Nat.one_mul, en]; omega
 have ek : (k + 1) * s = k * s + s := by rw [Nat.add_mul, Nat.one_mul]
 have hroom : k * s + s + (n - k) * s ≤ cur.size := by
  rw [hsz, ← eN]
  exact Nat.mul_le_mul_right s hnc
 have hsplit : cur.toList.take (k * s + (n - k) * s) = elv s k F ++ elv s (n - k) (fun i => F (k + i)) := by rw [← en, ht]; exact elv_parts s n k F (by omega)
 generalize hMd : elv s (n - k) (fun i => F (k + i)) = M at *
 generalize hAd : elv s k F = A at *
 have hcell : ∀ j, (hj : j < cur.size) → w.cell? ⟨g, j, none⟩ = some cur[j] := fun j hj => by simp [World.cell?, hh, hj]
 have hMc : ∀ j u, M[j]? = some u → w.cell? ((⟨g, k * s, none⟩ : Addr).add j) = some u := fun j u hj => by
  obtain ⟨hj1, rfl⟩ := List.getElem?_eq_some_iff.1 hj
  rw [Go.WideShapes.add_plain, hcell (k * s + j) (by omega)]
  have h3 : (cur.toList.take (k * s + (n - k) * s))[k * s + j]? = (A ++ M)[k * s + j]? := by rw [hsplit]
  rw [List.getElem?_take, if_pos (by omega), List.getElem?_append_right (by omega), hA, Nat.add_sub_cancel_left, List.getElem?_eq_getElem hj1, Array.getElem?_toList, Array.getElem?_eq_getElem (by omega)] at h3
  exact h3
 have hM1 : ∀ u ∈ M, u.oneCell' = true := fun u hu => by
  rw [← hMd] at hu
  unfold elv at hu
  obtain ⟨i, _, rfl⟩ := List.mem_map.1 hu
  exact o2 _ _
 have c1 := fun ty dc sc => copy_rowS (P := P) w T T ty e g ((k + 1) * s) (n + 1 - (k + 1)) dc ⟨g, k * s, none⟩ (n + 1 - k) sc cur e M s hu hs hh (by rw [hM]; congr 1; show n - k = min (n + 1 - k) (n + 1 - (k + 1)); omega) hMc (by omega) hM1
 have hg1 := setRow_heap w g cur (mvRow cur (k * s) s M) e (0, 0) hh
 have hgs : (mvRow cur (k * s) s M).size = cur.size := by unfold mvRow; simp; omega
 have c2 := fun ty dc => copy_rowS (P := P) (w.setRow g (mvRow cur (k * s) s M)) T T ty e g (k * s) (n + 1 - k) dc ⟨vb, 0, none⟩ 1 1 (mvRow cur (k * s) s M) e X s hu hs hg1 (by rw [hXl]; rw [show Nat.min 1 (n + 1 - k) = 1 by show min 1 (n + 1 - k) = 1; omega, Nat.one_mul]) (fun j u hj => by
   rw [Go.WideShapes.add_plain, Nat.zero_add]
   have := hv j u hj
   rwa [show (w.setRow g (mvRow cur (k * s) s M)).cell? ⟨vb, j, none⟩ = w.cell? ⟨vb, j, none⟩ by simp [World.cell?, setRow_other w g vb _ hvb]]) (by omega) o1
 refine ⟨w.setRow g (mvRow cur (k * s) s M), (w.setRow g (mvRow cur (k * s) s M)).setRow g (insRow cur (k * s) s X M), fun ty dc sc => ?_, fun ty dc => ?_, ?_, ?_, by simp⟩
 ·have := c1 ty dc sc
  rw [show Nat.min (n + 1 - k) (n + 1 - (k + 1)) = n - k by show min (n + 1 - k) (n + 1 - (k + 1)) = n - k; omega] at this
  rw [this, ek]
  rfl
 ·have := c2 ty dc
  rw [show Nat.min 1 (n + 1 - k) = 1 by show min 1 (n + 1 - k) = 1; omega] at this
  rw [this]
  unfold insRow mvRow
  rfl
 ·refine ⟨elv_length _ _ _, .inr ⟨g, c, insRow cur (k * s) s X M, rfl, hB, setRow_heap _ g _ _ e (0, 0) hg1, hnc, hm, ?_, ?_⟩⟩
  ·rw [← hsz]
   have := shift_length cur.toList M X (k * s) s hXl (by rw [hM]; simpa using hroom)
   unfold insRow
   simpa using this
  ·rw [elv_ins s n k F G X (by omega) h0 hX h2, hAd, hMd, eN]
   unfold insRow
   exact shift_list cur.toList A X M (k * s) s ((n - k) * s) c hA hXl hM hsplit (by simpa using hroom)
 ·exact ⟨rfl, rfl, rfl, by simp, fun b hb hne => by rw [setRow_other _ g b _ (fun e => hne (by rw [e])), setRow_other _ g b _ (fun e => hne (by rw [e]))]⟩
theorem ins_grow {P : Program} (w : World) (B T TI e : Nat) (i0 : TypeInfo) (z : Value) (s by_ n c k : Nat) (g : Nat) (F G : Nat → Nat → Value) (X : List Value) (vb : Nat)
  (hu : P.underlying T = some (.slice e)) (hti : P.underlying TI = some (.int .i64)) (hi : P.info? e = some i0) (hz : i0.zero = some z) (hsz : i0.size = s) (hby : i0.bytes = by_) (hzs : z.cells.size = s) (hs0 : 0 < s) (hb32 : by_ ≤ 100)
  (h : EO w B e s (.slice (some ⟨g, 0, none⟩) n c) n F) (hk : k < n) (hnc : ¬ n + 1 ≤ c) (hn : n ≤ 100000)
  (h0 : ∀ i, i < k → G i = F i) (hX : (List.range s).map (G k) = X) (h2 : ∀ i, k ≤ i → G (i + 1) = F i) (hB : B ≤ w.heap.size)
  (hv : ∀ j u, X[j]? = some u → w.cell? ⟨vb, j, none⟩ = some u) (hvb : vb < w.heap.size) (o1 : ∀ u ∈ X, u.oneCell' = true) (o2 : ∀ i j, (F i j).oneCell' = true) :
  ∃ (cc : Nat) (W1 W2 W3 : World), n + 1 ≤ cc ∧ cc ≤ 9223372036854775807 ∧ (∀ ty, (Builtin.append_ #[T, TI] ty #[.slice (some ⟨g, 0, none⟩) k c, .int .i64 ((n : Int) + 1 - (k : Int))]).run P w = .ok (.slice (some ⟨w.heap.size, 0, none⟩) (n + 1) cc) W1) ∧
   (∀ ty dc, (Builtin.copy_ #[T, T] ty #[.slice (some ⟨w.heap.size, k * s, none⟩) (n + 1 - k) dc, .slice (some ⟨vb, 0, none⟩) 1 1]).run P W1 = .ok (goInt 1) W2) ∧
   (∀ ty dc sc, (Builtin.copy_ #[T, T] ty #[.slice (some ⟨w.heap.size, (k + 1) * s, none⟩) (n + 1 - (k + 1)) dc, .slice (some ⟨g, k * s, none⟩) (n - k) sc]).run P W2.drew = .ok (goInt ((n - k : Nat) : Int)) W3) ∧
   EO W3 B e s (.slice (some ⟨w.heap.size, 0, none⟩) (n + 1) cc) (n + 1) G ∧ w.grownBy W3 none := by
 obtain ⟨hl, ⟨h1, _⟩ | ⟨g', cap, cur, hv', hBg, hh, hn', hm, hsc, ht⟩⟩ := h
 ·cases h1
 cases hv'
 obtain rfl : n = c := by omega
 have hsi : (P.info? e).map (·.size) = some s := by rw [hi]; simp [hsz]
 have hM : (elv s (n - k) (fun i => F (k + i))).length = (n - k) * s := elv_length _ _ _
 have hA : (elv s k F).length = k * s := elv_length _ _ _
 have hXl : X.length = s := by rw [← hX]; simp
 have en : n * s = k * s + (n - k) * s := by rw [← Nat.add_mul, Nat.add_sub_of_le (by omega)]
 have eN : (n + 1) * s = k * s + s + (n - k) * s := by rw [Nat.add_mul, Nat.one_mul, en]; omega
 have ek : (k + 1) * s = k * s + s := by rw [Nat.add_mul, Nat.one_mul]
 have hsplit : cur.toList.take (k * s + (n - k) * s) = elv s k F ++ elv s (n - k) (fun i => F (k + i)) := by rw [← en, ht]; exact elv_parts s n k F (by omega)
 generalize hMd : elv s (n - k) (fun i => F (k + i)) = M at *
 generalize hAd : elv s k F = A at *
 have hgl : g < w.heap.size := by
  rcases Nat.lt_or_ge g w.heap.size with q | q
  ·exact q
  ·rw [Array.getElem?_eq_none q] at hh; cases hh
 have hcell : ∀ j, (hj : j < cur.size) → w.cell? ⟨g, j, none⟩ = some cur[j] := fun j hj => by simp [World.cell?, hh, hj]
 have hget : ∀ j, j < k * s + (n - k) * s → cur.toList[j]? = (A ++ M)[j]? := fun j hj => by
  rw [← hsplit, List.getElem?_take, if_pos hj]
 have hAc : ∀ j u, A[j]? = some u → w.cell? ((⟨g, 0, none⟩ : Addr).add j) = some u := fun j u hj => by
  obtain ⟨hj1, rfl⟩ := List.getElem?_eq_some_iff.1 hj
  rw [Go.WideShapes.add_plain, Nat.zero_add, hcell j (by omega)]
  have h3 := hget j (by omega)
  rw [List.getElem?_append_left (by omega), List.getElem?_eq_getElem hj1, Array.getElem?_toList, Array.getElem?_eq_getElem (by omega)] at h3
  exact h3
 have hMc : ∀ j u, M[j]? = some u → w.cell? ((⟨g, k * s, none⟩ : Addr).add j) = some u := fun j u hj => by
  obtain ⟨hj1, rfl⟩ := List.getElem?_eq_some_iff.1 hj
  rw [Go.WideShapes.add_plain, hcell (k * s + j) (by omega)]
  have h3 := hget (k * s + j) (by omega)
  rw [List.getElem?_append_right (by omega), hA, Nat.add_sub_cancel_left, List.getElem?_eq_getElem hj1, Array.getElem?_toList, Array.getElem?_eq_getElem (by omega)] at h3
  exact h3
 have hM1 : ∀ u ∈ M, u.oneCell' = true := fun u hu => by
  rw [← hMd] at hu
  unfold elv at hu
  obtain ⟨i, _, rfl⟩ := List.mem_map.1 hu
  exact o2 _ _
 have hold : (Builtin.firstCells i0.size k (.slice (some ⟨g, 0, none⟩) k n)).run P w.drew = .ok A.toArray w.drew := by
  rw [hsz]
  exact run_firstCells_some w.drew s k ⟨g, 0, none⟩ k n A hA hAc
 have hkk : (n : Int) + 1 - (k : Int) = ((n + 1 - k : Nat) : Int) := by omega
 have hik : k + (n + 1 - k) = n + 1 := by omega
 have hb1 : (n + 1) * by_ ≤ (n + 1) * 100 := Nat.mul_le_mul_left _ hb32
 have hb2 : (n + 1 - k) * by_ ≤ (n + 1 - k) * 100 := Nat.mul_le_mul_left _ hb32
 have hap := fun ty => Lib.run_append_grow_zeros w T TI ty e i0 z .i64 .i64 hu hti hi hz (some ⟨g, 0, none⟩) k n A hold (n + 1 - k) (by omega) (by omega) (by omega) (by omega) (by rw [hby]; omega) (by rw [hby, hik]; exact growslice_fits (by omega) (by omega))
 rw [hik] at hap
 have hG1 := grownCap_ge w (n + 1) n e
 have hG2 := grownCap_le_maxLen w (n + 1) n e (by unfold maxLen; omega)
 unfold maxLen at hG2
 have hG2' : grownCap w (n + 1) n e ≤ maxLen := by unfold maxLen; exact hG2
 generalize grownCap w (n + 1) n e = cc at *
 have hzl : ∀ m, (Builtin.zeroCells z.cells m).size = m * s := fun m => by
  simp [Builtin.zeroCells, hzs, Nat.mul_comm]
 obtain ⟨ROW, hROW⟩ : ∃ ROW : Array Value, ROW = A.toArray ++ Builtin.zeroCells z.cells (n + 1 - k) ++ Builtin.zeroCells z.cells (cc - (n + 1)) := ⟨_, rfl⟩
 rw [← hROW] at hap
 have hRs : ROW.size = cc * s := by
  rw [hROW, Array.size_append, Array.size_append, hzl, hzl]
  simp only [List.size_toArray, hA]
  rw [← Nat.add_mul, ← Nat.add_mul]
  congr 1
  omega
 have hRA : ROW.toList.take (k * s) = A := by
  rw [hROW]
  simp only [Array.toList_append, List.append_assoc]
  rw [List.take_append_of_le_length (by simp [hA]), List.take_of_length_le (by simp [hA])]
 have hroom : k * s + s + (n - k) * s ≤ ROW.size := by rw [hRs, ← eN]; exact Nat.mul_le_mul_right s hG1
 obtain ⟨W1, hW1⟩ : ∃ W1, W1 = w.drew.alloc (.cells ROW e) := ⟨_, rfl⟩
 rw [← hW1] at hap
 have hw1g : W1.heap[w.heap.size]? = some (.cells ROW e (0, 0)) := by rw [hW1]; exact (MapKept.heap_alloc w.drew _).1
 have hw1o : ∀ b, b < w.heap.size → W1.heap[b]? = w.heap[b]? := fun b hb => by
  rw [hW1]
  exact ((Below.refl w.heap.size w).drew.alloc (Nat.le_refl _) (.cells ROW e)).block b hb
 have hw1s : w.heap.size ≤ W1.heap.size := by rw [hW1]; simp
 have hcOf : ∀ (W : World) (b j : Nat), W.heap[b]? = w.heap[b]? → W.cell? ⟨b, j, none⟩ = w.cell? ⟨b, j, none⟩ := fun W b j q => by simp [World.cell?, q]
 have c1 := fun ty dc => copy_rowS (P := P) W1 T T ty e w.heap.size (k * s) (n + 1 - k) dc ⟨vb, 0, none⟩ 1 1 ROW e X s hu hsi hw1g (by rw [hXl]; rw [show Nat.min 1 (n + 1 - k) = 1 by show min 1 (n + 1 - k) = 1; omega, Nat.one_mul]) (fun j u hj => by
   rw [Go.WideShapes.add_plain, Nat.zero_add, hcOf W1 vb j (hw1o vb hvb)]
   exact hv j u hj) (by omega) o1
 obtain ⟨R2, hR2⟩ : ∃ R2 : Array Value, R2 = (ROW.toList.take (k * s) ++ X ++ ROW.toList.drop (k * s + X.length)).toArray := ⟨_, rfl⟩
 rw [← hR2] at c1
 have hR2s : R2.size = ROW.size := by rw [hR2]; simp; omega
 have hw2g := setRow_heap W1 w.heap.size ROW R2 e (0, 0) hw1g
 have c2 := fun ty dc sc => copy_rowS (P := P) (W1.setRow w.heap.size R2).drew T T ty e w.heap.size ((k + 1) * s) (n + 1 - (k + 1)) dc ⟨g, k * s, none⟩ (n - k) sc R2 e M s hu hsi hw2g (by rw [hM]; congr 1; show n - k = min (n - k) (n + 1 - (k + 1)); omega) (fun j u hj => by
   have := hMc j u hj
   rw [Go.WideShapes.add_plain] at this ⊢
   rw [← this]
   exact hcOf (W1.setRow w.heap.size R2).drew g _ ((setRow_other W1 _ g _ (by omega)).trans (hw1o g hgl))) (by omega) hM1
 obtain ⟨R3, hR3⟩ : ∃ R3 : Array Value, R3 = (R2.toList.take ((k + 1) * s) ++ M ++ R2.toList.drop ((k + 1) * s + M.length)).toArray := ⟨_, rfl⟩
 rw [← hR3] at c2
 have hw3g := setRow_heap (W1.setRow w.heap.size R2).drew w.heap.size R2 R3 e (0, 0) hw2g
 refine ⟨cc, W1, W1.setRow w.heap.size R2, (W1.setRow w.heap.size R2).drew.setRow w.heap.size R3, hG1, hG2, fun ty => by rw [hkk]; exact hap ty, fun ty dc => ?_, fun ty dc sc => ?_, ?_, ?_⟩
 ·have := c1 ty dc
  rwa [show Nat.min 1 (n + 1 - k) = 1 by show min 1 (n + 1 - k) = 1; omega] at this
 ·have := c2 ty dc sc
  rwa [show Nat.min (n - k) (n + 1 - (k + 1)) = n - k by show min (n - k) (n + 1 - (k + 1)) = n - k; omega] at this
 ·refine ⟨elv_length _ _ _, .inr ⟨w.heap.size, cc, R3, rfl, hB, hw3g, hG1, hG2', ?_, ?_⟩⟩
  ·rw [← hRs, hR3]
   simp
   omega
  ·rw [elv_ins s n k F G X (by omega) h0 hX h2, hAd, hMd, eN, hR3]
   have hR2t : R2.toList.take ((k + 1) * s) = A ++ X := by
    rw [hR2, ek]
    simp only [List.append_assoc]
    rw [hRA, ← List.append_assoc, List.take_append_of_le_length (by simp; omega), List.take_of_length_le (by simp; omega)]
   rw [hR2t]
   simp only [List.append_assoc]
   rw [← List.append_assoc, ← List.append_assoc, List.take_append_of_le_length (by simp; omega), List.take_of_length_le (by simp; omega), List.append_assoc]
 ·refine ⟨by rw [hW1]; rfl, by rw [hW1]; rfl, by rw [hW1]; rfl, ?_, fun b hb _ => ?_⟩
  ·rw [setRow_size]
   show w.heap.size ≤ (W1.setRow w.heap.size R2).heap.size
   rw [setRow_size]
   exact hw1s
  ·rw [setRow_other _ _ b _ (by omega)]
   show (W1.setRow w.heap.size R2).heap[b]? = w.heap[b]?
   rw [setRow_other _ _ b _ (by omega)]
   exact hw1o b hb
end Go.Proofs.Ytedncfcmhaaobaa
namespace Go.Proofs.Ytedncfcmhaaobaa
open Go.ChangeShapes Go.WideShapes Go.ChangeAt Go.RowKit
set_option linter.unusedVariables false
def inVI (x : Int) (j : Nat) : Value := .int .i64 x
def BoxN (w : World) (q : Nat) (x : Int) : Prop := w.rowIs q 3 1 (fun _ => .int .i64 x)
theorem BoxN.c0 {w : World} {q : Nat} {x : Int} (h : BoxN w q x) : w.cell? ⟨q, 0, none⟩ = some (.int .i64 x) := World.rowIs.cell h (i := 0) (by omega)
theorem BoxN.made (w : World) (x : Int) : BoxN (w.alloc (.cells #[.int .i64 x] 3)) w.heap.size x := World.rowIs_alloc w #[.int .i64 x] 3 _ (fun i hi => by
 obtain rfl : i = 0 := by simpa using hi
 rfl)
set_option maxRecDepth 100000 in
theorem appInI (w : World) (B : Nat) (v : Value) (n q : Nat) (R : Nat → Int) (x : Int) (hB : B ≤ w.heap.size) (hn : n ≤ 100000) (h : EO w B 3 1 v n (inF R)) (hx : ∀ j, j < 1 → w.cell? ⟨q, 0 + j, none⟩ = some (inVI x j)) :
  ∃ v' w', (∀ ty, (Builtin.append_ #[29, 29] ty #[v, .slice (some ⟨q, 0, none⟩) 1 1]).run Try.prog w = .ok v' w') ∧ EO w' B 3 1 v' (n + 1) (inF (updE R n x)) ∧ w.grownBy w' v.ownBlock ∧ (v'.ownBlock = v.ownBlock ∨ v'.ownBlock = some w.heap.size) := by
 obtain ⟨i, hi, hz, hsz, hby⟩ := info_parts Try.infoInE
 obtain ⟨v', w', hr, ho, hg, _, hloc⟩ := run_append_own_at (P := Try.prog) w B 29 29 3 i _ 1 8 Try.underlying29 hi hz hsz hby rfl (by decide) v n _ h ⟨q, 0, none⟩ 1 1 ((List.range 1).map (inVI x)) (by simp) (fun j u hj => by
  rw [Go.WideShapes.add_plain]
  rw [List.getElem?_map, Option.map_eq_some_iff] at hj
  obtain ⟨b, hb, rfl⟩ := hj
  obtain ⟨hj', rfl⟩ := List.getElem?_eq_some_iff.1 hb
  rw [List.getElem_range]
  exact hx j (by simpa using hj')) (fun u hu => by
   obtain ⟨j, hj, rfl⟩ := List.mem_map.1 hu
   rfl) (by unfold maxLen; omega) (by omega) hB
 refine ⟨v', w', fun ty => hr, ?_, hg, hloc⟩
 unfold EO
 rw [elv_snoc, elv_congr (G := inF R) (fun i hi j hj => by unfold inF updE; rw [if_neg (by omega)])]
 have e : (List.range 1).map (inF (updE R n x) n) = (List.range 1).map (inVI x) := by unfold inF updE inVI; simp
 rw [e]
 exact ho
def InsIn (w : World) (B : Nat) (v : Value) (n : Nat) (R : Nat → Int) (e : Ending) (w' : World) : Prop := (∃ v', e = .returned v' ∧ EO w' B 3 1 v' (n + 1) (inF R) ∧ (v'.ownBlock = v.ownBlock ∨ v'.ownBlock = some w.heap.size)) ∧ w.grownBy w' v.ownBlock
set_option maxRecDepth 100000 in
set_option maxHeartbeats 1000000 in
theorem insIn_end (w : World) (B : Nat) (a : Option Addr) (n c q : Nat) (R : Nat → Int) (x : Int) (hB : B ≤ w.heap.size) (hn : n ≤ 100000) (h : EO w B 3 1 (.slice a n c) n (inF R)) (hx : ∀ j, j < 1 → w.cell? ⟨q, 0 + j, none⟩ = some (inVI x j)) :
  Calls Try.prog 111 #[.slice a n c, .int .i64 n, .slice (some ⟨q, 0, none⟩) 1 1] w fun e w' => InsIn w B (.slice a n c) n (updE R n x) e w' := by
 obtain ⟨v', w', hr, ho, hg, hloc⟩ := appInI w B _ n q R x hB hn h hx
 have hnc : n ≤ c := by
  obtain ⟨hl, ⟨h1, h2⟩ | ⟨g, cap, cur, hv, hB, hh, hn, _⟩⟩ := h
  ·omega
  ·cases hv; exact hn
 have HP : Hid (InsIn w B (.slice a n c) n (updE R n x) (.returned v') w') := ⟨⟨v', rfl, ho, hloc⟩, hg⟩
 clear h hx ho hg hloc
 by_cases hcn : c = n
 ·subst hcn
  go_enter Try.func111, Try.ntmps111
  go_wp2_with (at_builtin; refine Lib.wpList_append_run _ rfl (.tmp 23) (.tmp 24) 29 29 rfl (.slice a c c) (.slice (some ⟨q, 0, none⟩) 1 1) rfl rfl _ _ (hr _) ?_)
  go_ret
  exact HP.out
 ·have hlt : n < c := by omega
  have hz : ¬ c - n = 0 := by omega
  go_enter Try.func111, Try.ntmps111
  go_wp2_with (at_builtin; refine Lib.wpList_append_run _ rfl (.tmp 23) (.tmp 24) 29 29 rfl (.slice a n c) (.slice (some ⟨q, 0, none⟩) 1 1) rfl rfl _ _ (hr _) ?_)
  go_ret
  exact HP.out
set_option maxRecDepth 100000 in
theorem oneInF (R : Nat → Int) (i j : Nat) : (inF R i j).oneCell' = true := by
 unfold inF
 rfl
set_option maxRecDepth 100000 in
set_option maxHeartbeats 4000000 in
theorem insIn_mid (w : World) (B : Nat) (a : Option Addr) (n c q k : Nat) (R : Nat → Int) (x : Int) (hk : k < n) (hB : B ≤ w.heap.size) (hn : n ≤ 100000) (h : EO w B 3 1 (.slice a n c) n (inF R)) (hx : BoxN w q x) (hq : (Value.slice a n c).ownBlock ≠ some q) :
  Calls Try.prog 111 #[.slice a n c, .int .i64 k, .slice (some ⟨q, 0, none⟩) 1 1] w fun e w' => InsIn w B (.slice a n c) n (insE R k x) e w' := by
 obtain ⟨g, hcc, rfl⟩ : ∃ g, c ≤ maxLen ∧ a = some ⟨g, 0, none⟩ := by
  obtain ⟨hl, ⟨h1, h2⟩ | ⟨g, cap, cur, hv, hB, hh, hn, hm, _⟩⟩ := h
  ·omega
  ·cases hv; exact ⟨g, hm, rfl⟩
 have hnc : n ≤ c := by
  obtain ⟨hl, ⟨h1, h2⟩ | ⟨g, cap, cur, hv, hB, hh, hn, hm, _⟩⟩ := h
  ·omega
  ·cases hv; exact hn
 unfold maxLen at hcc
 have hqg : q ≠ g := fun e => hq (by rw [e]; rfl)
 have hXc : ∀ j u, ((List.range 1).map (inVI x))[j]? = some u → w.cell? ⟨q, j, none⟩ = some u := fun j u hj => by
  rw [List.getElem?_map, Option.map_eq_some_iff] at hj
  obtain ⟨b, hb, rfl⟩ := hj
  obtain ⟨hj', rfl⟩ := List.getElem?_eq_some_iff.1 hb
  rw [List.getElem_range]
  have hj2 : j < 1 := by simpa using hj'
  obtain rfl : j = 0 := by omega
  exact hx.c0
 have h0 : ∀ i, i < k → inF (insE R k x) i = inF R i := fun i hi => by unfold inF; rw [insE_lt _ _ hi]
 have hX : (List.range 1).map (inF (insE R k x) k) = (List.range 1).map (inVI x) := by unfold inF; rw [insE_eq]; rfl
 have h2 : ∀ i, k ≤ i → inF (insE R k x) (i + 1) = inF R i := fun i hi => by unfold inF; rw [insE_gt _ _ (by omega), Nat.add_sub_cancel]
 have hX1 : ∀ u ∈ (List.range 1).map (inVI x), u.oneCell' = true := fun u hu => by
  obtain ⟨j, _, rfl⟩ := List.mem_map.1 hu
  exact oneInF (fun _ => x) 0 j
 obtain ⟨i0, hi, hz, hsz, hby⟩ := info_parts Try.infoInE
 have hkz : ¬ ((k : Int) = (n : Int)) := by omega
 have hkz' : ((k : Int) == (n : Int)) = false := by simp; omega
 have hin : k ≤ n := by omega
 have hik : (k : Int) ≤ (n : Int) := by omega
 have hck : ¬ c - k = 0 := by omega
 by_cases hroom : n + 1 ≤ c
 ·obtain ⟨W1, W2, hc1, hc2, ho, hg, hsw⟩ := ins_shift (P := Try.prog) w.drew B 29 3 1 n c k g (inF R) (inF (insE R k x)) _ q Try.underlying29 (by rw [hi]; simp [hsz]) (EO.below h ((Below.refl _ w).drew)) hk hroom h0 hX h2 hXc hqg hX1 (oneInF R)
  have hov : ∀ lb cb, (callFunc 116 #[.slice (some ⟨q, 0, none⟩) 1 1, .slice (some ⟨g, (k + 1), none⟩) lb cb]).run Try.prog w = .ok (.value (.bool false)) w := fun lb cb => by
   obtain ⟨cs, hq1, hqs, _⟩ := (show w.rowIs q 3 1 (fun _ => .int .i64 x) from hx)
   obtain ⟨hl, ⟨h1, h2⟩ | ⟨g', cap, cur, hv, hB', hh, hn', hm, hs', _⟩⟩ := h
   ·omega
   cases hv
   rw [run_callFunc_extern Try.func116 (by kernel_rfl) (by kernel_rfl) (by kernel_rfl) (e := Extern.SlicesOverlaps.overlaps #[29, 29] #[4]) (by kernel_rfl),
    Lib.run_overlaps_apart w 29 4 3 Try.underlying29 1 (fun w => by simp [sizeOf, typeInfo, hi, hsz]) ⟨q, 0, none⟩ ⟨g, (k + 1), none⟩ 1 1 lb cb hqg 3 3 cs.size cur.size (by simp [World.shape?, hq1]) (by simp [World.shape?, hh]) (by rw [hs']; omega) (by simp [World.frozen?, hq1]) (by simp [World.frozen?, hq1])]
   rfl
  rw [show n + 1 - (k + 1) = n - k by omega] at hc1
  try simp only [Nat.mul_one] at hc1
  try simp only [Nat.mul_one] at hc2
  have mixed : Try.prog.follows .mixedOrders = true := by kernel_rfl
  have hb5 : (0 : Int) ≤ (k : Int) + 1 := by omega
  have hb6 : ¬ c = k + 1 := by omega
  have hb7 : ¬ c = k := by omega
  have hb8 : k ≤ n + 1 := by omega
  have hb1 : ¬ (c : Int) < (n : Int) + 1 := by omega
  have hb2 : ¬ c - (k + 1) = 0 := by omega
  have hb3 : (k : Int) ≤ (n : Int) + 1 := by omega
  have htn : ((k : Int) + 1).toNat = k + 1 := by omega
  have htm : ((n : Int) + 1).toNat = n + 1 := by omega
  have hw1 : IntKind.i64.wrap ((k : Int) + 1) = (k : Int) + 1 := IntWalk.i64_in _ (by omega)
  have HP : Hid (InsIn w B (.slice (some ⟨g, 0, none⟩) n c) n (insE R k x) (.returned (.slice (some ⟨g, 0, none⟩) (n + 1) c)) W2) := ⟨⟨_, rfl, ho, .inl rfl⟩, ⟨hg.os, hg.tape, hg.output, hg.size, hg.block⟩⟩
  clear h hx hXc h0 hX h2 hX1 hi hz hsz hby ho hg hsw hq
  go_enter Try.func111, Try.ntmps111
  go_wp2_with (simp only [hov])
  go_region_law_o (refine step_copy_runI rfl _ _ 29 29 rfl _ _ (by simp [Act.eval, Act.put]) (by simp [Act.eval, Act.put]) (hc1 _ _ _) ?_)
  go_wp2_with (at_builtin; refine wpList_copy_runI _ rfl _ _ 29 29 rfl _ _ rfl rfl (hc2 _ _) ?_)
  go_ret
  exact HP.out
 ·obtain ⟨cc, W1, W2, W3, hcc1, hcc2, hap, hc1, hc2, ho, hg⟩ := ins_grow (P := Try.prog) w B 29 3 3 i0 _ 1 8 n c k g (inF R) (inF (insE R k x)) _ q Try.underlying29 Try.underlying3 hi hz hsz hby rfl (by omega) (by omega) h hk hroom hn h0 hX h2 hB hXc (World.rowIs.lt hx) hX1 (oneInF R)
  have HP : Hid (InsIn w B (.slice (some ⟨g, 0, none⟩) n c) n (insE R k x) (.returned (.slice (some ⟨w.heap.size, 0, none⟩) (n + 1) cc)) W3) := ⟨⟨_, rfl, ho, .inr rfl⟩, ⟨hg.os, hg.tape, hg.output, hg.size, fun b hb _ => hg.block b hb (by simp)⟩⟩
  rw [show n + 1 - (k + 1) = n - k by omega] at hc2
  try simp only [Nat.mul_one] at hap
  try simp only [Nat.mul_one] at hc1
  try simp only [Nat.mul_one] at hc2
  have mixed : Try.prog.follows .mixedOrders = true := by kernel_rfl
  have hb5 : (0 : Int) ≤ (k : Int) + 1 := by omega
  have hb6 : ¬ cc = k + 1 := by omega
  have hb7 : ¬ c = k := by omega
  have hb9 : ¬ cc = k := by omega
  have hb8 : k ≤ n + 1 := by omega
  have hb1 : (c : Int) < (n : Int) + 1 := by omega
  have hb2 : ¬ cc - (k + 1) = 0 := by omega
  have hb2' : ¬ cc - k = 0 := by omega
  have hb3 : (k : Int) ≤ (n : Int) + 1 := by omega
  have htn : ((k : Int) + 1).toNat = k + 1 := by omega
  have hw1 : IntKind.i64.wrap ((k : Int) + 1) = (k : Int) + 1 := IntWalk.i64_in _ (by omega)
  clear h hx hXc h0 hX h2 hX1 hi hz hsz hby ho hg hq
  go_enter Try.func111, Try.ntmps111
  go_wp2_with (first
   | (at_builtin; refine Lib.wpList_append_run _ rfl (.tmp 34) (.tmp 39) 29 3 rfl _ _ rfl rfl _ _ (hap _) ?_)
   | (at_builtin; refine wpList_copy_runI _ rfl (.tmp 43) (.tmp 44) 29 29 rfl _ _ rfl rfl (hc1 _ _) ?_))
  go_region_law_o (refine step_copy_runI rfl _ _ 29 29 rfl _ _ (by simp [Act.eval, Act.put]) (by simp [Act.eval, Act.put]) (hc2 _ _ _) ?_)
  go_wp2
  go_ret
  exact HP.out
theorem insIn_any (w : World) (B : Nat) (a : Option Addr) (n c q k : Nat) (R : Nat → Int) (x : Int) (hk : k ≤ n) (hB : B ≤ w.heap.size) (hn : n ≤ 100000) (h : EO w B 3 1 (.slice a n c) n (inF R)) (hx : BoxN w q x) (hq : (Value.slice a n c).ownBlock ≠ some q) :
  Calls Try.prog 111 #[.slice a n c, .int .i64 k, .slice (some ⟨q, 0, none⟩) 1 1] w fun e w' => InsIn w B (.slice a n c) n (insE R k x) e w' := by
 rcases Nat.lt_or_ge k n with g | g
 ·exact insIn_mid w B a n c q k R x g hB hn h hx hq
 ·obtain rfl : k = n := by omega
  have hc : ∀ j, j < 1 → w.cell? ⟨q, 0 + j, none⟩ = some (inVI x j) := by
   intro j hj
   rw [Nat.zero_add]
   obtain rfl : j = 0 := by omega
   exact hx.c0
  refine (insIn_end w B a k c q R x hB hn h hc).mono ?_
  rintro e w' ⟨⟨v', rfl, ho, hloc⟩, hg⟩
  exact ⟨⟨v', rfl, EO.congr ho (fun i hi j _ => by unfold inF; rw [ins_end _ _ _ hi]), hloc⟩, hg⟩
end Go.Proofs.Ytedncfcmhaaobaa
namespace Go.Proofs.Ytedncfcmhaaobaa
open Go.ChangeShapes Go.WideShapes Go.ChangeAt Go.RowKit
set_option linter.unusedVariables false
structure SlP (a : Option Addr) (n c : Nat) : Prop where
 z : a = none → c = 0
 f : a = none ∨ ∃ g off, a = some ⟨g, off, none⟩
 le : n ≤ c
 mx : c ≤ maxLen
theorem EO.slp {w : World} {B : Nat} {t : TypeId} {s : Nat} {a : Option Addr} {n c : Nat} {F : Nat → Nat → Value} (h : EO w B t s (.slice a n c) n F) : SlP a n c := by
 obtain ⟨hl, ⟨h1, h2⟩ | ⟨g, cap, cur, hv, _, _, hn, hm, _⟩⟩ := h
 ·cases h1; exact ⟨fun _ => rfl, .inl rfl, by omega, by unfold maxLen; omega⟩
 ·cases hv; exact ⟨(fun e => by cases e), .inr ⟨_, _, rfl⟩, hn, hm⟩
def cutA (a : Option Addr) (c k s : Nat) : Option Addr := if c = k then a else a.map (·.add (k * s))
theorem cutA_zero {a : Option Addr} {n c : Nat} (h : SlP a n c) (k s : Nat) : cutA a c k s = none → c - k = 0 := fun e => by
 unfold cutA at e
 split at e
 ·omega
 ·cases a with
  | none => have := h.z rfl; omega
  | some ad => cases e
theorem Els.cut {w : World} {s : Nat} {a : Option Addr} {n c : Nat} {F : Nat → Nat → Value} (h : Els w s a n F) (hc : n ≤ c) (k : Nat) (hk : k ≤ n) : Els w s (cutA a c k s) (n - k) (fun i => F (k + i)) := by
 rcases Nat.eq_zero_or_pos (n - k) with q | q
 ·rw [q]; exact fun i hi => absurd hi (Nat.not_lt_zero _)
 ·obtain ⟨b, off, rfl, hc'⟩ := h.opened (by omega)
  have e : cutA (some ⟨b, off, none⟩) c k s = some ⟨b, off + k * s, none⟩ := by
   unfold cutA
   rw [if_neg (by omega)]
   exact congrArg some (Go.WideShapes.add_plain ..)
  rw [e]
  exact Els.behind h k hk
theorem run_cut_to {P : Program} (T : TypeId) (hu : P.underlying T = some (.slice (P.elem T))) (s : Nat) (hs : ∀ w, (sizeOf (P.elem T)).run P w = .ok s w) {a : Option Addr} {n c : Nat} (h : SlP a n c) (k : Nat) (hk : k ≤ c) (w : World) :
  (Instr.slice T (.slice a n c) none (some (.int .i64 (k : Int))) none).run P w = .ok (.slice a k c) w := by
 rw [run_slice_h (P := P) (w := w) T a n c hu .i64 (k : Int) (by omega) (by omega)]
 simp only [hs, Result.andThen, sliced, Int.toNat_natCast, Nat.zero_mul, Nat.sub_zero]
 rcases h.f with rfl | ⟨g, off, rfl⟩
 ·simp
 ·simp [Go.WideShapes.add_plain]
theorem run_cut_from {P : Program} (T : TypeId) (hu : P.underlying T = some (.slice (P.elem T))) (s : Nat) (hs : ∀ w, (sizeOf (P.elem T)).run P w = .ok s w) {a : Option Addr} {n c : Nat} (h : SlP a n c) (k : Nat) (hk : k ≤ n) (w : World) :
  (Instr.slice T (.slice a n c) (some (.int .i64 (k : Int))) none none).run P w = .ok (.slice (cutA a c k s) (n - k) (c - k)) w := by
 rw [run_slice_l (P := P) (w := w) T a n c hu .i64 (k : Int) (by omega) (by omega)]
 simp only [hs, Result.andThen, sliced, Int.toNat_natCast, cutA]
theorem below_dN (w : World) (n : Nat) : Below w.heap.size w (w.drewN n) := ⟨rfl, rfl, rfl, Nat.le_refl _, fun _ _ => rfl⟩
structure InsJ (u y : World) (t s : Nat) (r : Value) (m : Nat) (F : Nat → Nat → Value) (q : Option Nat) (V : Nat → Value) : Prop where
 hb : Below u.heap.size u y
 row : EO y u.heap.size t s r m F
 lit : ∀ p, q = some p → (∀ j, j < s → y.cell? ⟨p, 0 + j, none⟩ = some (V j)) ∧ p < y.heap.size ∧ r.ownBlock ≠ some p
theorem InsJ.start (u : World) (t s : Nat) (F : Nat → Nat → Value) (V : Nat → Value) : InsJ u u.drew t s (.slice none 0 0) 0 F none V := ⟨(Below.refl _ _).drew, EO.nil _ _ _ _ _, fun p e => by cases e⟩
theorem InsJ.lit0 {u y : World} {t s : Nat} {r : Value} {F : Nat → Nat → Value} {q : Option Nat} {V : Nat → Value} (h : InsJ u y t s r 0 F q V) : InsJ u (y.alloc (.cells #[] t)) t s (.slice (some ⟨y.heap.size, 0, none⟩) 0 0) 0 F q V := by
 have hb : Below y.heap.size y (y.alloc (.cells #[] t)) := (Below.refl _ _).alloc (Nat.le_refl _) _
 exact ⟨h.hb.trans (hb.mono h.hb.size), EO.lit y _ _ _ h.hb.size _, fun p e => by
  obtain ⟨h1, h2, h3⟩ := h.lit p e
  exact ⟨fun j hj => (hb.cell (p := ⟨p, 0 + j, none⟩) h2).trans (h1 j hj), by simp; omega, fun e => by cases e; exact absurd h2 (Nat.lt_irrefl _)⟩⟩
theorem InsJ.lit1 {u y : World} {t s : Nat} {r : Value} {m : Nat} {F : Nat → Nat → Value} {V : Nat → Value} (h : InsJ u y t s r m F none V) (cs : Array Value) (hc : ∀ j, j < s → cs[j]? = some (V j)) : InsJ u (y.alloc (.cells cs t)) t s r m F (some y.heap.size) V := by
 have hb : Below y.heap.size y (y.alloc (.cells cs t)) := (Below.refl _ _).alloc (Nat.le_refl _) _
 exact ⟨h.hb.trans (hb.mono h.hb.size), h.row.below hb, fun p e => by
  cases e
  exact ⟨fun j hj => by rw [Nat.zero_add, World.cell?_alloc_at (w := y) cs t _ j rfl]; exact hc j hj, by simp, fun e => absurd (h.row.ge _ e).2 (Nat.lt_irrefl _)⟩⟩
theorem InsJ.grow {u y y' : World} {t s : Nat} {r r' : Value} {m m' : Nat} {F F' : Nat → Nat → Value} {q : Option Nat} {V : Nat → Value} (h : InsJ u y t s r m F q V) (ho : EO y' u.heap.size t s r' m' F') (hg : y.grownBy y' r.ownBlock) (hl : r'.ownBlock = r.ownBlock ∨ r'.ownBlock = some y.heap.size) : InsJ u y' t s r' m' F' q V := by
 refine ⟨h.hb.grown hg h.hb.size (fun p e => (h.row.ge p e).1), ho, fun p e => ?_⟩
 obtain ⟨h1, h2, h3⟩ := h.lit p e
 refine ⟨fun j hj => by rw [← h1 j hj]; exact cellE (hg.block p h2 (fun e => h3 e.symm)), Nat.lt_of_lt_of_le h2 hg.size, fun e => ?_⟩
 rcases hl with q | q
 ·exact h3 (q ▸ e)
 ·rw [q] at e; cases e; exact absurd h2 (Nat.lt_irrefl _)
end Go.Proofs.Ytedncfcmhaaobaa
