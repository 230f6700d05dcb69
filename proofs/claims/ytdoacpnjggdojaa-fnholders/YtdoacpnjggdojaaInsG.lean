/-
  A row of elements of s cells into which one is set, ahead of the end: what the two copies leave.
-/
import Derived.Test.YtdoacpnjggdojaaEOg
import Derived.Laws.CopyRow
import Derived.Lib.AppendZerosOnto
import Derived.Lib.Overlaps
import Derived.Laws.NewBlocks
import Derived.Shelf.Spec.SlicesInsert
namespace Go.Proofs.Ytdoacpnjggdojaa
open Go.ChangeShapes Go.WideShapes Go.ChangeAt Go.RowKit
set_option linter.unusedVariables false
theorem copy_rowS {P : Program} (w : World) (dT sT ty elem : TypeId) (g o dLen dCap : Nat) (a : Addr) (sLen sCap : Nat) (cur : Array Value) (t : TypeId) (cs : List Value) (s : Nat)
    (hu : P.underlying dT = some (.slice elem)) (hs : (P.info? elem).map (·.size) = some s)
    (hg : w.heap[g]? = some (.cells cur t (0, 0))) (hn : cs.length = Nat.min sLen dLen * s)
    (hsrc : ∀ j v, cs[j]? = some v → w.cell? (a.add j) = some v) (hfit : o + cs.length ≤ cur.size) (h1 : ∀ v ∈ cs, v.oneCell' = true) :
    (Builtin.copy_ #[dT, sT] ty #[.slice (some ⟨g, o, none⟩) dLen dCap, .slice (some a) sLen sCap]).run P w =
      .ok (goInt (Nat.min sLen dLen)) (w.setRow g (cur.toList.take o ++ cs ++ cur.toList.drop (o + cs.length)).toArray) := by
  have hl := run_loadCells_list (P := P) w a cs hsrc
  have hst := run_storeCells_at P g o t cs 0 cur w hg (by simpa using hfit) h1
  cases hq : P.info? elem with
  | none => simp [hq] at hs
  | some i =>
    have hi : i.size = s := by simpa [hq] using hs
    simp [Builtin.copy_, run_underlying hu, Builtin.lenOf, Builtin.firstCells, sizeOf, typeInfo, hq, hi, ← hn, hl, hst]
/-- One element set at place k, as a list of cells. -/
theorem elv_ins (s n k : Nat) (F G : Nat → Nat → Value) (X : List Value) (hk : k ≤ n) (h0 : ∀ i, i < k → G i = F i) (h1 : (List.range s).map (G k) = X) (h2 : ∀ i, k ≤ i → G (i + 1) = F i) :
    elv s (n + 1) G = elv s k F ++ X ++ elv s (n - k) (fun i => F (k + i)) := by
  have e := elv_cat s (k + 1) G (fun i => F (k + i)) G (fun _ _ => rfl) (fun i => by
    rw [show k + 1 + i = k + i + 1 by omega]; exact h2 (k + i) (by omega)) (n - k)
  rw [show k + 1 + (n - k) = n + 1 by omega] at e
  rw [e, elv_snoc, h1, elv_congr (G := F) (fun i hi j _ => by rw [h0 i hi])]
theorem elv_parts (s n k : Nat) (F : Nat → Nat → Value) (hk : k ≤ n) : elv s n F = elv s k F ++ elv s (n - k) (fun i => F (k + i)) := by
  have e := elv_cat s k F (fun i => F (k + i)) F (fun _ _ => rfl) (fun i => rfl) (n - k)
  rwa [show k + (n - k) = n by omega] at e
theorem elv_add (s n m : Nat) : (n + m) * s = n * s + m * s := Nat.add_mul _ _ _
/-- The row behind the two copies in place. -/
theorem shift_list (L A X M : List Value) (a s m c : Nat) (hA : A.length = a) (hX : X.length = s) (hM : M.length = m) (hL : L.take (a + m) = A ++ M) (hc : a + s + m ≤ L.length) :
    (((L.take (a + s) ++ M ++ L.drop (a + s + M.length)).take a ++ X ++ (L.take (a + s) ++ M ++ L.drop (a + s + M.length)).drop (a + X.length))).take (a + s + m) = A ++ X ++ M := by
  have hA' : L.take a = A := by
    have h1 : (A ++ M).take a = A := by rw [List.take_append_of_le_length (by omega), List.take_of_length_le (by omega)]
    rw [← h1, ← hL, List.take_take, Nat.min_eq_left (by omega)]
  have e1 : (L.take (a + s) ++ M ++ L.drop (a + s + M.length)).take a = A := by
    rw [List.append_assoc, List.take_append_of_le_length (by rw [List.length_take]; omega), List.take_take, Nat.min_eq_left (by omega), hA']
  have e2 : (L.take (a + s) ++ M ++ L.drop (a + s + M.length)).drop (a + X.length) = M ++ L.drop (a + s + M.length) := by
    rw [List.append_assoc, List.drop_append_of_le_length (by rw [List.length_take]; omega), List.drop_of_length_le (by rw [List.length_take]; omega), List.nil_append]
  rw [e1, e2, ← List.append_assoc, List.take_append_of_le_length (by simp; omega), List.take_of_length_le (by simp; omega)]
theorem shift_length (L M X : List Value) (a s : Nat) (hX : X.length = s) (hc : a + s + M.length ≤ L.length) :
    ((L.take (a + s) ++ M ++ L.drop (a + s + M.length)).take a ++ X ++ (L.take (a + s) ++ M ++ L.drop (a + s + M.length)).drop (a + X.length)).length = L.length := by
  simp [hX]
  omega
/-- What slices.Insert leaves of a row with room: the cells behind the two copies. -/
def insRow (cur : Array Value) (a s : Nat) (X M : List Value) : Array Value := ((cur.toList.take (a + s) ++ M ++ cur.toList.drop (a + s + M.length)).take a ++ X ++ (cur.toList.take (a + s) ++ M ++ cur.toList.drop (a + s + M.length)).drop (a + X.length)).toArray
def mvRow (cur : Array Value) (a s : Nat) (M : List Value) : Array Value := (cur.toList.take (a + s) ++ M ++ cur.toList.drop (a + s + M.length)).toArray
/-- slices.Insert in place: both copies run, and leave the row with one more element. -/
theorem ins_shift {P : Program} (w : World) (B T e : Nat) (s n c k : Nat) (g : Nat) (F G : Nat → Nat → Value) (X : List Value) (vb : Nat)
    (hu : P.underlying T = some (.slice e)) (hs : (P.info? e).map (·.size) = some s) (h : EO w B e s (.slice (some ⟨g, 0, none⟩) n c) n F) (hk : k < n) (hnc : n + 1 ≤ c)
    (h0 : ∀ i, i < k → G i = F i) (hX : (List.range s).map (G k) = X) (h2 : ∀ i, k ≤ i → G (i + 1) = F i)
    (hv : ∀ j u, X[j]? = some u → w.cell? ⟨vb, j, none⟩ = some u) (hvb : vb ≠ g) (o1 : ∀ u ∈ X, u.oneCell' = true) (o2 : ∀ i j, (F i j).oneCell' = true) :
    ∃ W1 W2 : World, (∀ ty dc sc, (Builtin.copy_ #[T, T] ty #[.slice (some ⟨g, (k + 1) * s, none⟩) (n + 1 - (k + 1)) dc, .slice (some ⟨g, k * s, none⟩) (n + 1 - k) sc]).run P w = .ok (goInt ((n - k : Nat) : Int)) W1) ∧
      (∀ ty dc, (Builtin.copy_ #[T, T] ty #[.slice (some ⟨g, k * s, none⟩) (n + 1 - k) dc, .slice (some ⟨vb, 0, none⟩) 1 1]).run P W1 = .ok (goInt 1) W2) ∧
      EO W2 B e s (.slice (some ⟨g, 0, none⟩) (n + 1) c) (n + 1) G ∧ w.grownBy W2 (some g) ∧ W2.heap.size = w.heap.size := by
  obtain ⟨hl, ⟨h1, _⟩ | ⟨g', cap, cur, hv', hB, hh, hn, hm, hsz, ht⟩⟩ := h
  · cases h1
  cases hv'
  have hM : (elv s (n - k) (fun i => F (k + i))).length = (n - k) * s := elv_length _ _ _
  have hA : (elv s k F).length = k * s := elv_length _ _ _
  have hXl : X.length = s := by rw [← hX]; simp
  have en : n * s = k * s + (n - k) * s := by rw [← Nat.add_mul, Nat.add_sub_of_le (by omega)]
  have eN : (n + 1) * s = k * s + s + (n - k) * s := by rw [Nat.add_mul, Nat.one_mul, en]; omega
  have ek : (k + 1) * s = k * s + s := by rw [Nat.add_mul, Nat.one_mul]
  have hroom : k * s + s + (n - k) * s ≤ cur.size := by
    rw [hsz, ← eN]
    exact Nat.mul_le_mul_right s hnc
  have hsplit : cur.toList.take (k * s + (n - k) * s) = elv s k F ++ elv s (n - k) (fun i => F (k + i)) := by rw [← en, ht]; exact elv_parts s n k F (by omega)
  generalize hMd : elv s (n - k) (fun i => F (k + i)) = M at *
  generalize hAd : elv s k F = A at *
  have hcell : ∀ j, (hj : j < cur.size) → w.cell? ⟨g, j, none⟩ = some cur[j] := fun j hj => by simp [World.cell?, hh, hj]
  have hMc : ∀ j u, M[j]? = some u → w.cell? ((⟨g, k * s, none⟩ : Addr).add j) = some u := fun j u hj => by
    obtain ⟨hj1, rfl⟩ := List.getElem?_eq_some_iff.1 hj
    rw [Go.WideShapes.add_plain, hcell (k * s + j) (by omega)]
    have h3 : (cur.toList.take (k * s + (n - k) * s))[k * s + j]? = (A ++ M)[k * s + j]? := by rw [hsplit]
    rw [List.getElem?_take, if_pos (by omega), List.getElem?_append_right (by omega), hA, Nat.add_sub_cancel_left, List.getElem?_eq_getElem hj1, Array.getElem?_toList, Array.getElem?_eq_getElem (by omega)] at h3
    exact h3
  have hM1 : ∀ u ∈ M, u.oneCell' = true := fun u hu => by
    rw [← hMd] at hu
    unfold elv at hu
    obtain ⟨i, _, rfl⟩ := List.mem_map.1 hu
    exact o2 _ _
  have c1 := fun ty dc sc => copy_rowS (P := P) w T T ty e g ((k + 1) * s) (n + 1 - (k + 1)) dc ⟨g, k * s, none⟩ (n + 1 - k) sc cur e M s hu hs hh (by rw [hM]; congr 1; show n - k = min (n + 1 - k) (n + 1 - (k + 1)); omega) hMc (by omega) hM1
  have hg1 := setRow_heap w g cur (mvRow cur (k * s) s M) e (0, 0) hh
  have hgs : (mvRow cur (k * s) s M).size = cur.size := by unfold mvRow; simp; omega
  have c2 := fun ty dc => copy_rowS (P := P) (w.setRow g (mvRow cur (k * s) s M)) T T ty e g (k * s) (n + 1 - k) dc ⟨vb, 0, none⟩ 1 1 (mvRow cur (k * s) s M) e X s hu hs hg1 (by rw [hXl]; rw [show Nat.min 1 (n + 1 - k) = 1 by show min 1 (n + 1 - k) = 1; omega, Nat.one_mul]) (fun j u hj => by
      rw [Go.WideShapes.add_plain, Nat.zero_add]
      have := hv j u hj
      rwa [show (w.setRow g (mvRow cur (k * s) s M)).cell? ⟨vb, j, none⟩ = w.cell? ⟨vb, j, none⟩ by simp [World.cell?, setRow_other w g vb _ hvb]]) (by omega) o1
  refine ⟨w.setRow g (mvRow cur (k * s) s M), (w.setRow g (mvRow cur (k * s) s M)).setRow g (insRow cur (k * s) s X M), fun ty dc sc => ?_, fun ty dc => ?_, ?_, ?_, by simp⟩
  · have := c1 ty dc sc
    rw [show Nat.min (n + 1 - k) (n + 1 - (k + 1)) = n - k by show min (n + 1 - k) (n + 1 - (k + 1)) = n - k; omega] at this
    rw [this, ek]
    rfl
  · have := c2 ty dc
    rw [show Nat.min 1 (n + 1 - k) = 1 by show min 1 (n + 1 - k) = 1; omega] at this
    rw [this]
    unfold insRow mvRow
    rfl
  · refine ⟨elv_length _ _ _, .inr ⟨g, c, insRow cur (k * s) s X M, rfl, hB, setRow_heap _ g _ _ e (0, 0) hg1, hnc, hm, ?_, ?_⟩⟩
    · rw [← hsz]
      have := shift_length cur.toList M X (k * s) s hXl (by rw [hM]; simpa using hroom)
      unfold insRow
      simpa using this
    · rw [elv_ins s n k F G X (by omega) h0 hX h2, hAd, hMd, eN]
      unfold insRow
      exact shift_list cur.toList A X M (k * s) s ((n - k) * s) c hA hXl hM hsplit (by simpa using hroom)
  · exact ⟨rfl, rfl, rfl, by simp, fun b hb hne => by rw [setRow_other _ g b _ (fun e => hne (by rw [e])), setRow_other _ g b _ (fun e => hne (by rw [e]))]⟩
/-- slices.Insert where there is no room: the append and both copies run, and leave a new row with one more element. -/
theorem ins_grow {P : Program} (w : World) (B T TI e : Nat) (i0 : TypeInfo) (z : Value) (s by_ n c k : Nat) (g : Nat) (F G : Nat → Nat → Value) (X : List Value) (vb : Nat)
    (hu : P.underlying T = some (.slice e)) (hti : P.underlying TI = some (.int .i64)) (hi : P.info? e = some i0) (hz : i0.zero = some z) (hsz : i0.size = s) (hby : i0.bytes = by_) (hzs : z.cells.size = s) (hs0 : 0 < s) (hb32 : by_ ≤ 100)
    (h : EO w B e s (.slice (some ⟨g, 0, none⟩) n c) n F) (hk : k < n) (hnc : ¬ n + 1 ≤ c) (hn : n ≤ 100000)
    (h0 : ∀ i, i < k → G i = F i) (hX : (List.range s).map (G k) = X) (h2 : ∀ i, k ≤ i → G (i + 1) = F i) (hB : B ≤ w.heap.size)
    (hv : ∀ j u, X[j]? = some u → w.cell? ⟨vb, j, none⟩ = some u) (hvb : vb < w.heap.size) (o1 : ∀ u ∈ X, u.oneCell' = true) (o2 : ∀ i j, (F i j).oneCell' = true) :
    ∃ (cc : Nat) (W1 W2 W3 : World), n + 1 ≤ cc ∧ cc ≤ 9223372036854775807 ∧ (∀ ty, (Builtin.append_ #[T, TI] ty #[.slice (some ⟨g, 0, none⟩) k c, .int .i64 ((n : Int) + 1 - (k : Int))]).run P w = .ok (.slice (some ⟨w.heap.size, 0, none⟩) (n + 1) cc) W1) ∧
      (∀ ty dc, (Builtin.copy_ #[T, T] ty #[.slice (some ⟨w.heap.size, k * s, none⟩) (n + 1 - k) dc, .slice (some ⟨vb, 0, none⟩) 1 1]).run P W1 = .ok (goInt 1) W2) ∧
      (∀ ty dc sc, (Builtin.copy_ #[T, T] ty #[.slice (some ⟨w.heap.size, (k + 1) * s, none⟩) (n + 1 - (k + 1)) dc, .slice (some ⟨g, k * s, none⟩) (n - k) sc]).run P W2.drew = .ok (goInt ((n - k : Nat) : Int)) W3) ∧
      EO W3 B e s (.slice (some ⟨w.heap.size, 0, none⟩) (n + 1) cc) (n + 1) G ∧ w.grownBy W3 none := by
  obtain ⟨hl, ⟨h1, _⟩ | ⟨g', cap, cur, hv', hBg, hh, hn', hm, hsc, ht⟩⟩ := h
  · cases h1
  cases hv'
  obtain rfl : n = c := by omega
  have hsi : (P.info? e).map (·.size) = some s := by rw [hi]; simp [hsz]
  have hM : (elv s (n - k) (fun i => F (k + i))).length = (n - k) * s := elv_length _ _ _
  have hA : (elv s k F).length = k * s := elv_length _ _ _
  have hXl : X.length = s := by rw [← hX]; simp
  have en : n * s = k * s + (n - k) * s := by rw [← Nat.add_mul, Nat.add_sub_of_le (by omega)]
  have eN : (n + 1) * s = k * s + s + (n - k) * s := by rw [Nat.add_mul, Nat.one_mul, en]; omega
  have ek : (k + 1) * s = k * s + s := by rw [Nat.add_mul, Nat.one_mul]
  have hsplit : cur.toList.take (k * s + (n - k) * s) = elv s k F ++ elv s (n - k) (fun i => F (k + i)) := by rw [← en, ht]; exact elv_parts s n k F (by omega)
  generalize hMd : elv s (n - k) (fun i => F (k + i)) = M at *
  generalize hAd : elv s k F = A at *
  have hgl : g < w.heap.size := by
    rcases Nat.lt_or_ge g w.heap.size with q | q
    · exact q
    · rw [Array.getElem?_eq_none q] at hh; cases hh
  have hcell : ∀ j, (hj : j < cur.size) → w.cell? ⟨g, j, none⟩ = some cur[j] := fun j hj => by simp [World.cell?, hh, hj]
  have hget : ∀ j, j < k * s + (n - k) * s → cur.toList[j]? = (A ++ M)[j]? := fun j hj => by
    rw [← hsplit, List.getElem?_take, if_pos hj]
  have hAc : ∀ j u, A[j]? = some u → w.cell? ((⟨g, 0, none⟩ : Addr).add j) = some u := fun j u hj => by
    obtain ⟨hj1, rfl⟩ := List.getElem?_eq_some_iff.1 hj
    rw [Go.WideShapes.add_plain, Nat.zero_add, hcell j (by omega)]
    have h3 := hget j (by omega)
    rw [List.getElem?_append_left (by omega), List.getElem?_eq_getElem hj1, Array.getElem?_toList, Array.getElem?_eq_getElem (by omega)] at h3
    exact h3
  have hMc : ∀ j u, M[j]? = some u → w.cell? ((⟨g, k * s, none⟩ : Addr).add j) = some u := fun j u hj => by
    obtain ⟨hj1, rfl⟩ := List.getElem?_eq_some_iff.1 hj
    rw [Go.WideShapes.add_plain, hcell (k * s + j) (by omega)]
    have h3 := hget (k * s + j) (by omega)
    rw [List.getElem?_append_right (by omega), hA, Nat.add_sub_cancel_left, List.getElem?_eq_getElem hj1, Array.getElem?_toList, Array.getElem?_eq_getElem (by omega)] at h3
    exact h3
  have hM1 : ∀ u ∈ M, u.oneCell' = true := fun u hu => by
    rw [← hMd] at hu
    unfold elv at hu
    obtain ⟨i, _, rfl⟩ := List.mem_map.1 hu
    exact o2 _ _
  have hold : (Builtin.firstCells i0.size k (.slice (some ⟨g, 0, none⟩) k n)).run P w.drew = .ok A.toArray w.drew := by
    rw [hsz]
    exact run_firstCells_some w.drew s k ⟨g, 0, none⟩ k n A hA hAc
  have hkk : (n : Int) + 1 - (k : Int) = ((n + 1 - k : Nat) : Int) := by omega
  have hik : k + (n + 1 - k) = n + 1 := by omega
  have hb1 : (n + 1) * by_ ≤ (n + 1) * 100 := Nat.mul_le_mul_left _ hb32
  have hb2 : (n + 1 - k) * by_ ≤ (n + 1 - k) * 100 := Nat.mul_le_mul_left _ hb32
  have hap := fun ty => Lib.run_append_grow_zeros w T TI ty e i0 z .i64 .i64 hu hti hi hz (some ⟨g, 0, none⟩) k n A hold (n + 1 - k) (by omega) (by omega) (by omega) (by omega) (by rw [hby]; omega) (by rw [hby, hik]; exact growslice_fits (by omega) (by omega))
  rw [hik] at hap
  have hG1 := grownCap_ge w (n + 1) n e
  have hG2 := grownCap_le_maxLen w (n + 1) n e (by unfold maxLen; omega)
  unfold maxLen at hG2
  have hG2' : grownCap w (n + 1) n e ≤ maxLen := by unfold maxLen; exact hG2
  generalize grownCap w (n + 1) n e = cc at *
  have hzl : ∀ m, (Builtin.zeroCells z.cells m).size = m * s := fun m => by
    simp [Builtin.zeroCells, hzs, Nat.mul_comm]
  obtain ⟨ROW, hROW⟩ : ∃ ROW : Array Value, ROW = A.toArray ++ Builtin.zeroCells z.cells (n + 1 - k) ++ Builtin.zeroCells z.cells (cc - (n + 1)) := ⟨_, rfl⟩
  rw [← hROW] at hap
  have hRs : ROW.size = cc * s := by
    rw [hROW, Array.size_append, Array.size_append, hzl, hzl]
    simp only [List.size_toArray, hA]
    rw [← Nat.add_mul, ← Nat.add_mul]
    congr 1
    omega
  have hRA : ROW.toList.take (k * s) = A := by
    rw [hROW]
    simp only [Array.toList_append, List.append_assoc]
    rw [List.take_append_of_le_length (by simp [hA]), List.take_of_length_le (by simp [hA])]
  have hroom : k * s + s + (n - k) * s ≤ ROW.size := by rw [hRs, ← eN]; exact Nat.mul_le_mul_right s hG1
  obtain ⟨W1, hW1⟩ : ∃ W1, W1 = w.drew.alloc (.cells ROW e) := ⟨_, rfl⟩
  rw [← hW1] at hap
  have hw1g : W1.heap[w.heap.size]? = some (.cells ROW e (0, 0)) := by rw [hW1]; exact (MapKept.heap_alloc w.drew _).1
  have hw1o : ∀ b, b < w.heap.size → W1.heap[b]? = w.heap[b]? := fun b hb => by
    rw [hW1]
    exact ((Below.refl w.heap.size w).drew.alloc (Nat.le_refl _) (.cells ROW e)).block b hb
  have hw1s : w.heap.size ≤ W1.heap.size := by rw [hW1]; simp
  have hcOf : ∀ (W : World) (b j : Nat), W.heap[b]? = w.heap[b]? → W.cell? ⟨b, j, none⟩ = w.cell? ⟨b, j, none⟩ := fun W b j q => by simp [World.cell?, q]
  have c1 := fun ty dc => copy_rowS (P := P) W1 T T ty e w.heap.size (k * s) (n + 1 - k) dc ⟨vb, 0, none⟩ 1 1 ROW e X s hu hsi hw1g (by rw [hXl]; rw [show Nat.min 1 (n + 1 - k) = 1 by show min 1 (n + 1 - k) = 1; omega, Nat.one_mul]) (fun j u hj => by
      rw [Go.WideShapes.add_plain, Nat.zero_add, hcOf W1 vb j (hw1o vb hvb)]
      exact hv j u hj) (by omega) o1
  obtain ⟨R2, hR2⟩ : ∃ R2 : Array Value, R2 = (ROW.toList.take (k * s) ++ X ++ ROW.toList.drop (k * s + X.length)).toArray := ⟨_, rfl⟩
  rw [← hR2] at c1
  have hR2s : R2.size = ROW.size := by rw [hR2]; simp; omega
  have hw2g := setRow_heap W1 w.heap.size ROW R2 e (0, 0) hw1g
  have c2 := fun ty dc sc => copy_rowS (P := P) (W1.setRow w.heap.size R2).drew T T ty e w.heap.size ((k + 1) * s) (n + 1 - (k + 1)) dc ⟨g, k * s, none⟩ (n - k) sc R2 e M s hu hsi hw2g (by rw [hM]; congr 1; show n - k = min (n - k) (n + 1 - (k + 1)); omega) (fun j u hj => by
      have := hMc j u hj
      rw [Go.WideShapes.add_plain] at this ⊢
      rw [← this]
      exact hcOf (W1.setRow w.heap.size R2).drew g _ ((setRow_other W1 _ g _ (by omega)).trans (hw1o g hgl))) (by omega) hM1
  obtain ⟨R3, hR3⟩ : ∃ R3 : Array Value, R3 = (R2.toList.take ((k + 1) * s) ++ M ++ R2.toList.drop ((k + 1) * s + M.length)).toArray := ⟨_, rfl⟩
  rw [← hR3] at c2
  have hw3g := setRow_heap (W1.setRow w.heap.size R2).drew w.heap.size R2 R3 e (0, 0) hw2g
  refine ⟨cc, W1, W1.setRow w.heap.size R2, (W1.setRow w.heap.size R2).drew.setRow w.heap.size R3, hG1, hG2, fun ty => by rw [hkk]; exact hap ty, fun ty dc => ?_, fun ty dc sc => ?_, ?_, ?_⟩
  · have := c1 ty dc
    rwa [show Nat.min 1 (n + 1 - k) = 1 by show min 1 (n + 1 - k) = 1; omega] at this
  · have := c2 ty dc sc
    rwa [show Nat.min (n - k) (n + 1 - (k + 1)) = n - k by show min (n - k) (n + 1 - (k + 1)) = n - k; omega] at this
  · refine ⟨elv_length _ _ _, .inr ⟨w.heap.size, cc, R3, rfl, hB, hw3g, hG1, hG2', ?_, ?_⟩⟩
    · rw [← hRs, hR3]
      simp
      omega
    · rw [elv_ins s n k F G X (by omega) h0 hX h2, hAd, hMd, eN, hR3]
      have hR2t : R2.toList.take ((k + 1) * s) = A ++ X := by
        rw [hR2, ek]
        simp only [List.append_assoc]
        rw [hRA, ← List.append_assoc, List.take_append_of_le_length (by simp; omega), List.take_of_length_le (by simp; omega)]
      rw [hR2t]
      simp only [List.append_assoc]
      rw [← List.append_assoc, ← List.append_assoc, List.take_append_of_le_length (by simp; omega), List.take_of_length_le (by simp; omega), List.append_assoc]
  · refine ⟨by rw [hW1]; rfl, by rw [hW1]; rfl, by rw [hW1]; rfl, ?_, fun b hb _ => ?_⟩
    · rw [setRow_size]
      show w.heap.size ≤ (W1.setRow w.heap.size R2).heap.size
      rw [setRow_size]
      exact hw1s
    · rw [setRow_other _ _ b _ (by omega)]
      show (W1.setRow w.heap.size R2).heap[b]? = w.heap[b]?
      rw [setRow_other _ _ b _ (by omega)]
      exact hw1o b hb
end Go.Proofs.Ytdoacpnjggdojaa
