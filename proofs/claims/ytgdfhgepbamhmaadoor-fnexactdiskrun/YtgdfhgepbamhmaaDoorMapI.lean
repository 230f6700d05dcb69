/-
  Maps from numbers to whatever, of a call's own: what they tell, looked up, written, cleared, ranged over.
-/
import Derived.Test.YtgdfhgepbamhmaaDoorStrS
import Derived.Maps.Own
import Derived.Maps.RangeRun
namespace Go.Proofs.YtgdfhgepbamhmaaDoor
open Go.ChangeShapes Go.WideShapes Go.ChangeAt Go.RowKit
open Go.MapKept Go.ChangeMaps
/-- Block b is a map that tells M. -/
def MapI (w : World) (b : Nat) (M : Int → Option Value) : Prop := ∃ es clock, w.heap[b]? = some (.map es clock) ∧ Stamped es clock ∧ (∀ e ∈ es.toList, ∃ a, e.key = .int .i64 a ∧ M a = some e.val) ∧ (∀ a v, M a = some v → ∃ e ∈ es.toList, e.key = .int .i64 a)
theorem MapI.lt {w : World} {b : Nat} {M : Int → Option Value} (h : MapI w b M) : b < w.heap.size := by
  obtain ⟨es, clock, hb, _⟩ := h
  exact (Array.getElem?_eq_some_iff.1 hb).1
theorem MapI.ofBlock {w w' : World} {b : Nat} {M : Int → Option Value} (h : MapI w b M) (e : w'.heap[b]? = w.heap[b]?) : MapI w' b M := by
  obtain ⟨es, clock, hb, r⟩ := h
  exact ⟨es, clock, e.trans hb, r⟩
theorem MapI.below {w w' : World} {b : Nat} {M : Int → Option Value} (h : MapI w b M) (hb : Below w.heap.size w w') : MapI w' b M := h.ofBlock (hb.block b h.lt)
theorem MapI.onlyB {w w' : World} {b g : Nat} {M : Int → Option Value} (h : MapI w b M) (ho : OnlyB g w w') (hne : b ≠ g) : MapI w' b M := h.ofBlock (ho.block b h.lt hne)
theorem MapI.congr {w : World} {b : Nat} {M N : Int → Option Value} (h : MapI w b M) (e : ∀ a, M a = N a) : MapI w b N := by
  obtain rfl : M = N := funext e
  exact h
theorem MapI.made (w : World) : MapI (w.alloc (.map #[] 0)) w.heap.size (fun _ => none) := ⟨#[], 0, (MapKept.heap_alloc w _).1, stamped_empty 0, by simp, by simp⟩
theorem isKeyI (a : Int) : IsKey (.int .i64) (.int .i64 a) := rfl
theorem MapI.keys {es : Array MapEntry} {M : Int → Option Value} (h : ∀ e ∈ es.toList, ∃ a, e.key = .int .i64 a ∧ M a = some e.val) : ∀ x ∈ es.toList, IsKey (.int .i64) x.key := fun x hx => by
  obtain ⟨a, ha, _⟩ := h x hx
  rw [ha]
  exact isKeyI a
theorem MapI.look {P : Program} {w : World} {b : Nat} {M : Int → Option Value} {t k e : TypeId} (h : MapI w b M) (ht : P.underlying t = some (.map k e)) (hk : P.underlying k = some (.int .i64)) {z : Value} (hz : (zeroValue e).run P w = .ok z w) (a : Int) :
    (Instr.lookup t (.map (some b)) (.int .i64 a) true).run P w = .ok (.tuple #[(M a).getD z, .bool (M a).isSome]) w := by
  obtain ⟨es, clock, hb, hs, h1, h2⟩ := h
  rcases findNow_spec (isKeyI a) es.toList 0 (MapI.keys h1) with ⟨f1, f2⟩ | ⟨j, e0, f1, f2, f3⟩
  · have hM : M a = none := by
      cases hMa : M a with
      | none => rfl
      | some v =>
        obtain ⟨x, hx, hxa⟩ := h2 a v hMa
        exact absurd hxa (f2 x hx)
    simp [Instr.lookup, run_underlying ht, MapKept.run_getObj_map hb, run_checkKey hk (isKeyI a) _ 9999, run_findKey hk f1, hz, Result.andThen, hM]
  · obtain ⟨a', ha', hv⟩ := h1 e0 (List.mem_of_getElem? f2)
    rw [f3] at ha'
    cases ha'
    simp [Instr.lookup, run_underlying ht, MapKept.run_getObj_map hb, run_checkKey hk (isKeyI a) _ 9999, run_findKey hk f1, Result.andThen, hv]
theorem onlyB_setBlock (w : World) (b : Nat) (o' : Obj) : OnlyB b w (setBlock w b o') :=
  ⟨rfl, rfl, rfl, by simp [setBlock], fun k _ hn => by simp [setBlock, Ne.symm hn]⟩
theorem MapI.put {P : Program} {w : World} {b : Nat} {M : Int → Option Value} {t k e : TypeId} (h : MapI w b M) (ht : P.underlying t = some (.map k e)) (hk : P.underlying k = some (.int .i64)) (a : Int) (v : Value) :
    ∃ w', (Instr.mapUpdate t (.map (some b)) (.int .i64 a) v).run P w = .ok () w' ∧ MapI w' b (fun x => if x = a then some v else M x) ∧ OnlyB b w w' ∧ w'.heap.size = w.heap.size := by
  obtain ⟨es, clock, hb, hs, h1, h2⟩ := h
  have hp := ((stamped_iff es clock).1 hs).2.2
  rcases findNow_spec (isKeyI a) es.toList 0 (MapI.keys h1) with ⟨f1, f2⟩ | ⟨j, e0, f1, f2, f3⟩
  · refine ⟨setBlock w b (.map (es.push ⟨.int .i64 a, v, clock⟩) (clock + 1)), ?_, ⟨_, _, heap_setBlock_same hb _, stamped_push hs f2, ?_, ?_⟩, onlyB_setBlock _ _ _, by simp [setBlock]⟩
    · simp [Instr.mapUpdate, run_underlying ht, MapKept.run_getObj_map hb, run_checkKey hk (isKeyI a) _ 9999, run_findKey hk f1, MapKept.run_setObj_map _ hb, Result.andThen, setBlock]
    · intro x hx
      simp only [Array.toList_push, List.mem_append, List.mem_singleton] at hx
      rcases hx with hx | rfl
      · obtain ⟨a', ha', hv⟩ := h1 x hx
        refine ⟨a', ha', ?_⟩
        dsimp only
        rw [if_neg (fun e => f2 x hx (by rw [ha', e]))]
        exact hv
      · exact ⟨a, rfl, if_pos rfl⟩
    · intro x v' hx
      by_cases e : x = a
      · subst e
        exact ⟨⟨.int .i64 x, v, clock⟩, by simp, rfl⟩
      · dsimp only at hx
        rw [if_neg e] at hx
        obtain ⟨y, hy, hya⟩ := h2 x v' hx
        exact ⟨y, by simp only [Array.toList_push, List.mem_append]; exact .inl hy, hya⟩
  · have hj : es[j]? = some e0 := by simpa using f2
    have hjl : j < es.toList.length := (List.getElem?_eq_some_iff.1 f2).1
    have hlist : (es.modify j (fun e' => { e' with key := .int .i64 a, val := v })).toList = es.toList.set j { e0 with key := .int .i64 a, val := v } := by rw [Array.toList_modify, modify_eq_set _ _ _ _ f2]
    refine ⟨setBlock w b (.map (es.modify j (fun e' => { e' with key := .int .i64 a, val := v })) clock), ?_, ⟨_, _, heap_setBlock_same hb _, stamped_modify hs _ _ (fun _ _ => rfl) (fun e' _ he' => by rw [hj] at he'; cases he'; exact f3.symm), ?_, ?_⟩, onlyB_setBlock _ _ _, by simp [setBlock]⟩
    · simp [Instr.mapUpdate, run_underlying ht, MapKept.run_getObj_map hb, run_checkKey hk (isKeyI a) _ 9999, run_findKey hk f1, hj, f3, run_keyThatStays (isKeyI a), MapKept.run_setObj_map _ hb, Result.andThen, setBlock]
    · intro x hx
      rw [hlist] at hx
      obtain ⟨i, hi, ex⟩ := List.getElem_of_mem hx
      rw [List.getElem_set] at ex
      split at ex
      · subst ex
        exact ⟨a, rfl, if_pos rfl⟩
      · rename_i hne
        have hi' : i < es.toList.length := by simpa using hi
        have hm : x ∈ es.toList := ex ▸ List.getElem_mem hi'
        obtain ⟨a', ha', hv⟩ := h1 x hm
        refine ⟨a', ha', ?_⟩
        have hpi := List.pairwise_iff_getElem.1 hp
        have : x.key ≠ e0.key := by
          have e0' : es.toList[j] = e0 := by
            have := f2
            rw [List.getElem?_eq_getElem hjl] at this
            exact Option.some.inj this
          rcases Nat.lt_or_gt_of_ne hne with g | g
          · have := hpi j i hjl hi' g
            rw [e0', ex] at this
            exact fun q => this q.symm
          · have := hpi i j hi' hjl g
            rw [e0', ex] at this
            exact this
        dsimp only
        rw [if_neg (fun e => this (by rw [ha', f3, e]))]
        exact hv
    · intro x v' hx
      by_cases e : x = a
      · subst e
        refine ⟨{ e0 with key := .int .i64 x, val := v }, ?_, rfl⟩
        rw [hlist]
        exact List.mem_iff_getElem.2 ⟨j, by simpa using hjl, by simp⟩
      · dsimp only at hx
        rw [if_neg e] at hx
        obtain ⟨y, hy, hya⟩ := h2 x v' hx
        refine ⟨y, ?_, hya⟩
        rw [hlist]
        obtain ⟨i, hi, ey⟩ := List.getElem_of_mem hy
        refine List.mem_iff_getElem.2 ⟨i, by simpa using hi, ?_⟩
        rw [List.getElem_set, if_neg, ey]
        intro ej
        subst ej
        rw [List.getElem?_eq_getElem hi, ey] at f2
        cases f2
        rw [f3] at hya
        cases hya
        exact e rfl
theorem MapI.cleared {P : Program} {w : World} {b : Nat} {M : Int → Option Value} {t k e : TypeId} (h : MapI w b M) (ht : P.underlying t = some (.map k e)) (ty : TypeId) :
    ∃ w', (Builtin.clear_ #[t] ty #[.map (some b)]).run P w = .ok (.tuple #[]) w' ∧ MapI w' b (fun _ => none) ∧ OnlyB b w w' ∧ w'.heap.size = w.heap.size := by
  obtain ⟨es, clock, hb, hs, h1, h2⟩ := h
  refine ⟨setBlock w b (.map #[] clock), ?_, ⟨_, _, heap_setBlock_same hb _, stamped_empty _, by simp, by simp⟩, onlyB_setBlock _ _ _, by simp [setBlock]⟩
  simp [Builtin.clear_, run_underlying ht, MapKept.run_getObj_map hb, MapKept.run_setObj_map _ hb, Result.andThen, setBlock]
/-- A range over the map in block b by the iterator in block r: S are the keys that have come. -/
def RangeI (w : World) (b r : Nat) (M : Int → Option Value) (S : List Int) : Prop := ∃ es clock seen c0, w.heap[b]? = some (.map es clock) ∧ Stamped es clock ∧ (∀ e ∈ es.toList, ∃ a, e.key = .int .i64 a ∧ M a = some e.val) ∧ (∀ a v, M a = some v → ∃ e ∈ es.toList, e.key = .int .i64 a) ∧ w.heap[r]? = some (.mapIter (some b) clock seen c0) ∧ clock ≤ c0 ∧ (∀ e ∈ es.toList, e.born ∈ seen.toList ↔ ∃ a ∈ S, e.key = .int .i64 a) ∧ S.Nodup ∧ (∀ a ∈ S, (M a).isSome = true)
theorem RangeI.ofBlocks {w w' : World} {b r : Nat} {M : Int → Option Value} {S : List Int} (h : RangeI w b r M S) (e : w'.heap[b]? = w.heap[b]?) (e' : w'.heap[r]? = w.heap[r]?) : RangeI w' b r M S := by
  obtain ⟨es, clock, seen, c0, hb, h1, h2, h3, hr, rest⟩ := h
  exact ⟨es, clock, seen, c0, e.trans hb, h1, h2, h3, e'.trans hr, rest⟩
theorem RangeI.map {w : World} {b r : Nat} {M : Int → Option Value} {S : List Int} (h : RangeI w b r M S) : MapI w b M := by
  obtain ⟨es, clock, seen, c0, hb, h1, h2, h3, hr, rest⟩ := h
  exact ⟨es, clock, hb, h1, h2, h3⟩
theorem RangeI.ltr {w : World} {b r : Nat} {M : Int → Option Value} {S : List Int} (h : RangeI w b r M S) : r < w.heap.size := by
  obtain ⟨es, clock, seen, c0, hb, h1, h2, h3, hr, rest⟩ := h
  exact (Array.getElem?_eq_some_iff.1 hr).1
theorem RangeI.ne {w : World} {b r : Nat} {M : Int → Option Value} {S : List Int} (h : RangeI w b r M S) : b ≠ r := by
  obtain ⟨es, clock, seen, c0, hb, h1, h2, h3, hr, rest⟩ := h
  rintro rfl
  rw [hb] at hr
  cases hr
theorem MapI.ranged {P : Program} {w : World} {b : Nat} {M : Int → Option Value} {t k e : TypeId} (h : MapI w b M) (ht : P.underlying t = some (.map k e)) :
    ∃ w', (Instr.range t (.map (some b))).run P w = .ok (.pointer (some ⟨w.heap.size, 0, none⟩)) w' ∧ RangeI w' b w.heap.size M [] ∧ Below w.heap.size w w' ∧ w'.heap.size = w.heap.size + 1 := by
  have hlt := h.lt
  obtain ⟨es, clock, hb, hs, h1, h2⟩ := h
  have hB : Below w.heap.size w (w.alloc (.mapIter (some b) clock #[] clock)) := (Below.refl _ _).alloc (Nat.le_refl _) _
  refine ⟨w.alloc (.mapIter (some b) clock #[] clock), ?_, ⟨es, clock, #[], clock, (hB.block b hlt).trans hb, hs, h1, h2, (MapKept.heap_alloc w _).1, Nat.le_refl _, fun e _ => by simp, by simp, by simp⟩, hB, by simp⟩
  simp [Instr.range, run_underlying ht, MapKept.run_getObj_map hb, Result.andThen]
theorem RangeI.next {P : Program} {w : World} {b r : Nat} {M : Int → Option Value} {S : List Int} (h : RangeI w b r M S) (ty : TypeId) :
    ((∀ a, (M a).isSome = true → a ∈ S) ∧ (Instr.next (.pointer (some ⟨r, 0, none⟩)) false ty).run P w = .ok (.tuple #[.bool false]) w) ∨
    ∃ (a : Int) (v : Value) (w' : World), M a = some v ∧ a ∉ S ∧ (Instr.next (.pointer (some ⟨r, 0, none⟩)) false ty).run P w = .ok (.tuple #[.bool true, .int .i64 a, v]) w' ∧ RangeI w' b r M (a :: S) ∧ OnlyB r w w' ∧ w'.heap.size = w.heap.size ∧
      (Instr.entry (.pointer (some ⟨r, 0, none⟩))).run P w' = .ok (.tuple #[.int .i64 a, v]) w' := by
  have hne := h.ne
  obtain ⟨es, clock, seen, c0, hb, hs, h1, h2, hr, hc, hseen, hnd, hS⟩ := h
  obtain ⟨s1, s2, s3⟩ := (stamped_iff es clock).1 hs
  rcases run_next_at (P := P) w ty r b clock c0 seen es clock hr hb s1 hc with ⟨h0, hrun⟩ | ⟨e, he, w1, hw1, hrun⟩
  · left
    refine ⟨fun a ha => ?_, hrun⟩
    obtain ⟨v, hv⟩ := Option.isSome_iff_exists.1 ha
    obtain ⟨x, hx, hxa⟩ := h2 a v hv
    have hin : x.born ∈ seen.toList := by
      rcases Classical.em (x.born ∈ seen.toList) with g | g
      · exact g
      · exfalso
        have : x ∈ (leftOf es seen).toList := by
          unfold leftOf
          simp only [Array.toList_filter, List.mem_filter]
          exact ⟨hx, by simpa using g⟩
        rw [Array.eq_empty_of_size_eq_zero h0] at this
        simp at this
    obtain ⟨a', ha', hk⟩ := (hseen x hx).1 hin
    rw [hxa] at hk
    cases hk
    exact ha'
  · right
    have hle : e ∈ es.toList ∧ e.born ∉ seen.toList := by
      unfold leftOf at he
      simp only [Array.toList_filter, List.mem_filter] at he
      exact ⟨he.1, by simpa using he.2⟩
    obtain ⟨a, hka, hMa⟩ := h1 e hle.1
    have hnS : a ∉ S := fun hin => hle.2 ((hseen e hle.1).2 ⟨a, hin, hka⟩)
    have hh : w1.heap = w.heap := by rcases hw1 with rfl | rfl <;> rfl
    have hr1 : w1.heap[r]? = some (.mapIter (some b) clock seen c0) := by rw [hh]; exact hr
    have hrlt : r < w1.heap.size := (Array.getElem?_eq_some_iff.1 hr1).1
    have hsame : (setBlock w1 r (.mapIter (some b) clock (seen.push e.born) clock)).heap[r]? = some (.mapIter (some b) clock (seen.push e.born) clock) := by simp [setBlock, hrlt]
    have hoth : ∀ k, k ≠ r → (setBlock w1 r (.mapIter (some b) clock (seen.push e.born) clock)).heap[k]? = w.heap[k]? := fun k hk => by rw [← hh]; simp [setBlock, Ne.symm hk]
    have hb1 := (hoth b hne).trans hb
    refine ⟨a, e.val, setBlock w1 r (.mapIter (some b) clock (seen.push e.born) clock), hMa, hnS, by rw [hrun, hka], ⟨es, clock, seen.push e.born, clock, hb1, hs, h1, h2, hsame, Nat.le_refl _, ?_, List.nodup_cons.2 ⟨hnS, hnd⟩, ?_⟩, ⟨?_, ?_, ?_, by simp [setBlock, hh], fun k _ hk => hoth k hk⟩, by simp [setBlock, hh], ?_⟩
    · intro x hx
      simp only [Array.toList_push, List.mem_append, List.mem_singleton]
      constructor
      · rintro (g | g)
        · obtain ⟨a', ha', hk⟩ := (hseen x hx).1 g
          exact ⟨a', List.mem_cons_of_mem _ ha', hk⟩
        · have : x = e := by
            have f1 := find_born x es.toList s2 hx
            have f2 := find_born e es.toList s2 hle.1
            rw [g] at f1
            exact Option.some.inj (f1.symm.trans f2)
          subst this
          exact ⟨a, List.mem_cons_self, hka⟩
      · rintro ⟨a', ha', hk⟩
        rcases List.mem_cons.1 ha' with rfl | ha'
        · right
          have : x = e := by
            rcases Classical.em (x = e) with g | g
            · exact g
            · exfalso
              obtain ⟨i, hi, ei⟩ := List.getElem_of_mem hx
              obtain ⟨j, hj, ej⟩ := List.getElem_of_mem hle.1
              have hpi := List.pairwise_iff_getElem.1 s3
              rcases Nat.lt_trichotomy i j with l | l | l
              · have := hpi i j hi hj l
                rw [ei, ej] at this
                exact this (by rw [hk, hka])
              · subst l
                exact g (ei.symm.trans ej)
              · have := hpi j i hj hi l
                rw [ei, ej] at this
                exact this (by rw [hk, hka])
          rw [this]
        · exact .inl ((hseen x hx).2 ⟨a', ha', hk⟩)
    · intro a' ha'
      rcases List.mem_cons.1 ha' with rfl | ha'
      · rw [hMa]; rfl
      · exact hS a' ha'
    · rcases hw1 with rfl | rfl <;> rfl
    · rcases hw1 with rfl | rfl <;> rfl
    · rcases hw1 with rfl | rfl <;> rfl
    · rw [run_entry_at (P := P) _ r b clock seen es clock e hsame hb1 hle.1 s2, hka]
end Go.Proofs.YtgdfhgepbamhmaaDoor
