/-
  slices.SortFunc of files by their paths.
-/
import Derived.Test.YtglfhajfbdjjcaaFileMvF
import Derived.Test.YtglfhajfbdjjcaaSortL
namespace Go.Proofs.Ytglfhajfbdjjcaa
open Go.ChangeShapes Go.WideShapes Go.ChangeAt Go.RowKit
set_option linter.unusedVariables false
/-- Files whose paths are short. -/
abbrev ShF := {x : Fi // x.p.size ≤ 40}
instance : Inhabited ShF := ⟨⟨fiZ, by show (0 : Nat) ≤ 40; omega⟩⟩
def encF (x : ShF) : List Value := [.string x.1.p, .bool x.1.d, .string x.1.t]
def cfF (x y : ShF) : Int := cmpI (ord x.1.p) (ord y.1.p)
theorem ltF (x y : ShF) : Go.Proofs.ltOf cfF x y = decide (ord x.1.p < ord y.1.p) := by
  unfold Go.Proofs.ltOf cfF cmpI
  by_cases h1 : ord x.1.p < ord y.1.p
  · simp [h1]
  · by_cases h2 : ord y.1.p < ord x.1.p <;> simp [h1, h2]
theorem swoF : Go.Sort.SWO (Go.Proofs.ltOf cfF) where
  irrefl x := by rw [ltF]; simp
  trans x y z h1 h2 := by rw [ltF] at *; simp at *; omega
  ntrans x y z h1 h2 := by rw [ltF] at *; simp at *; omega
set_option maxRecDepth 100000 in
theorem byPathW (p : ByteArray) (d : Bool) (t q : ByteArray) (hp : p.size ≤ 40) (hq : q.size ≤ 40) (w : World) :
    Calls Try.prog 70 #[.agg #[.string p, .bool d, .string t], .string q] w fun e w' => e = .returned (.int .i64 (cmpI (ord p) (ord q))) ∧ w' = w.alloc (.cells #[.string p, .bool d, .string t] 33) := by
  have HC : Hid (∀ w : World, Calls Try.prog 109 #[.string p, .string q] w fun e w' => e = .returned (.int .i64 (cmpI (ord p) (ord q))) ∧ w' = w) := compare_any p q hp hq
  generalize cmpI (ord p) (ord q) = r at *
  clear hp hq
  go_enter Try.func70, Try.ntmps70
  go_wp2_with fail
  refine (HC.out _).mono ?_
  rintro e w' ⟨rfl, rfl⟩
  go_wp2
  go_ret
  exact ⟨rfl, rfl⟩
set_option maxRecDepth 100000 in
theorem cloMv (x y : ShF) (w : World) : Calls Try.prog 69 #[.agg #[.string x.1.p, .bool x.1.d, .string x.1.t], .agg #[.string y.1.p, .bool y.1.d, .string y.1.t]] w fun e w' => e = .returned (.int .i64 (cfF x y)) ∧ ∃ q os', w' = Go.Sort.grow (w.drewN q) os' := by
  obtain ⟨⟨xp, xd, xt⟩, hx⟩ := x
  obtain ⟨⟨yp, yd, yt⟩, hy⟩ := y
  have HB : Hid (∀ w : World, Calls Try.prog 70 #[.agg #[.string xp, .bool xd, .string xt], .string yp] w fun e w' => e = .returned (.int .i64 (cmpI (ord xp) (ord yp))) ∧ w' = w.alloc (.cells #[.string xp, .bool xd, .string xt] 33)) := byPathW xp xd xt yp hx hy
  unfold cfF
  dsimp only
  generalize cmpI (ord xp) (ord yp) = r at *
  clear hx hy
  go_enter Try.func69, Try.ntmps69
  go_wp2_with fail
  refine (HB.out _).mono ?_
  rintro e w' ⟨rfl, rfl⟩
  go_wp2
  go_ret
  exact ⟨rfl, 0, _, by rw [Go.Sort.alloc_eq_grow, Go.Sort.alloc_eq_grow, Go.Sort.alloc_eq_grow, Go.Sort.grow_grow, Go.Sort.grow_grow]; rfl⟩
theorem flat_elv (d : Array ShF) (m : Nat) (hd : d.size = m) : (Go.Sort.flatK encF 3 d).toList = elv 3 m (fiF (fun i => (d[i]!).1)) := by
  subst hd
  unfold Go.Sort.flatK elv
  rw [Array.toList_map, Array.toList_range]
  refine List.map_congr_left (fun t ht => ?_)
  have h3 : t % 3 < 3 := Nat.mod_lt _ (by omega)
  show (encF d[t / 3]!)[t % 3]! = fiV (d[t / 3]!).1 (t % 3)
  rcases (show t % 3 = 0 ∨ t % 3 = 1 ∨ t % 3 = 2 by omega) with e | e | e <;> rw [e] <;> rfl
theorem EO.sortedF {w : World} {B g m c : Nat} {H : Nat → Fi} (h : EO w B 33 3 (.slice (some ⟨g, 0, none⟩) m c) m (fiF H)) (d : Array ShF) (hd : d.size = m) (n : Nat) (os : Array Obj) : EO (Go.Proofs.sortWorldK encF 3 w g 0 n d os) B 33 3 (.slice (some ⟨g, 0, none⟩) m c) m (fiF (fun i => (d[i]!).1)) ∧ OnlyB g w (Go.Proofs.sortWorldK encF 3 w g 0 n d os) := by
  obtain ⟨hl, ⟨h1, _⟩ | ⟨g', cap, cur, hv, hB, hh, hn, hm, hs, ht⟩⟩ := h
  · cases h1
  · cases hv
    have hlt : g < w.heap.size := (Array.getElem?_eq_some_iff.1 hh).1
    have hfs : (Go.Sort.flatK encF 3 d).size = m * 3 := by rw [Go.Sort.size_flatK, hd]
    have hblk : (Go.Proofs.sortWorldK encF 3 w g 0 n d os).heap[g]? = some (.cells (Go.Sort.putCells id 0 (Go.Sort.flatK encF 3 d) cur) 33 (0, 0)) := by
      unfold Go.Proofs.sortWorldK Go.Sort.putRowK Go.Sort.putRow Go.Sort.mapBlock Go.Sort.grow Go.Sort.ahead
      rw [Array.getElem?_append_left (by simpa using hlt), Array.getElem?_modify, if_pos rfl, hh]
      rfl
    refine ⟨⟨elv_length _ _ _, .inr ⟨g, c, _, rfl, hB, hblk, hn, hm, by unfold Go.Sort.putCells; rw [Array.size_mapIdx]; exact hs, ?_⟩⟩, ?_⟩
    · rw [← flat_elv d m hd]
      have hcs : m * 3 ≤ cur.size := by
        have h5 := congrArg List.length ht
        rw [elv_length, List.length_take, Array.length_toList] at h5
        omega
      refine List.ext_getElem ?_ (fun i q1 q2 => ?_)
      · rw [List.length_take, Array.length_toList, Array.length_toList, hfs]
        unfold Go.Sort.putCells
        rw [Array.size_mapIdx]
        omega
      · rw [Array.length_toList, hfs] at q2
        rw [List.getElem_take, Array.getElem_toList, Array.getElem_toList]
        unfold Go.Sort.putCells
        rw [Array.getElem_mapIdx, if_pos ⟨Nat.zero_le _, by rw [hfs]; omega⟩, Nat.sub_zero]
        show (Go.Sort.flatK encF 3 d)[i]! = _
        rw [getElem!_pos _ i (by rw [hfs]; exact q2)]
    · unfold Go.Proofs.sortWorldK Go.Sort.putRowK Go.Sort.putRow Go.Sort.mapBlock Go.Sort.grow Go.Sort.ahead
      refine ⟨rfl, rfl, rfl, by simp, fun k hk hne => ?_⟩
      show ((w.heap.modify g _) ++ os)[k]? = _
      rw [Array.getElem?_append_left (by simpa using hk), Array.getElem?_modify, if_neg (fun e => hne e.symm)]
theorem sortMv_any (B g m c : Nat) (H : Nat → Fi) (hz : ∀ i, i < m → (H i).p.size ≤ 40) (hm : m ≤ 100) (hm0 : 0 < m) (hd : ∀ i j, i < m → j < m → (H i).p = (H j).p → i = j) (w : World) (h : EO w B 33 3 (.slice (some ⟨g, 0, none⟩) m c) m (fiF H)) :
    Calls Try.prog 68 #[.slice (some ⟨g, 0, none⟩) m c, .func (.func 69) #[] #[]] w fun e w' => e = .returned (.tuple #[]) ∧ (∃ G : Nat → Fi, EO w' B 33 3 (.slice (some ⟨g, 0, none⟩) m c) m (fiF G) ∧ (∀ i, i < m → ∃ j, j < m ∧ G i = H j) ∧ (∀ j, j < m → ∃ i, i < m ∧ G i = H j) ∧ Rises (fun i => ord (G i).p) m) ∧ OnlyB g w w' := by
  obtain ⟨d, hds, hdv⟩ : ∃ d : Array ShF, d.size = m ∧ ∀ i, i < m → (d[i]!).1 = H i := by
    refine ⟨((List.range m).map (fun i => if q : (H i).p.size ≤ 40 then (⟨H i, q⟩ : ShF) else default)).toArray, by simp, fun i hi => ?_⟩
    rw [getElem!_pos _ i (by simpa using hi)]
    simp [hz i hi]
  have eg : ∀ args w, (callFunc 69 args).run Try.prog w = .ok (.enter 69 args) w := enters_of Try.func69 (by kernel_rfl) rfl
  have hE : EO w B 33 3 (.slice (some ⟨g, 0, none⟩) m c) m (fiF (fun i => (d[i]!).1)) := h.congr (fun i hi j hj => by show fiV (H i) j = fiV (d[i]!).1 j; rw [hdv i hi])
  have hH : Go.Sort.HoldsK encF 3 w g 0 d := fun t ht => by
    rw [Go.Sort.size_flatK, hds] at ht
    obtain ⟨g', hr, _⟩ := hE.rowE
    have hg := hr.a (by omega)
    cases hg
    have h3 : t % 3 < 3 := Nat.mod_lt _ (by omega)
    have hq : t / 3 < m := by omega
    have c0 := hr.c (t / 3) hq (t % 3) h3
    refine ⟨?_, hr.z _ (by omega)⟩
    rw [Go.Sort.get_flatK _ _ _ t (by rw [hds]; exact ht), Nat.zero_add, show t = t / 3 * 3 + t % 3 by omega]
    rw [show (t / 3 * 3 + t % 3) / 3 = t / 3 by omega, show (t / 3 * 3 + t % 3) % 3 = t % 3 by omega]
    rw [c0]
    show some (fiV (d[t / 3]!).1 (t % 3)) = some ((encF d[t / 3]!)[t % 3]!)
    rcases (show t % 3 = 0 ∨ t % 3 = 1 ∨ t % 3 = 2 by omega) with e | e | e <;> rw [e] <;> rfl
  have hcon := Go.Proofs.AnyQ.slices_SortFunc sortFi 3 Try.isAgg33 Try.sizeOf33 encF (fun _ => rfl) (fun x v hv => by simp [encF] at hv; rcases hv with rfl | rfl | rfl <;> rfl) cfF swoF 69 #[] g 0 c d w eg (fun _ _ _ _ x y => cloMv x y _) hH (h.ge g rfl).2 (by omega)
  rw [hds] at hcon
  refine Calls.mono hcon ?_
  rintro e w' ⟨rfl, d', n, os, hp, hs, rfl⟩
  have hz' : d'.size = m := by rw [hp.1, hds]
  obtain ⟨h1, h2⟩ := h.sortedF d' hz' n os
  have hperm : d'.toList.Perm d.toList := by
    have := hp.2.2
    rwa [← hds, Array.extract_size, show d.size = d'.size from hp.1.symm, Array.extract_size] at this
  have hmem : ∀ i, i < m → d'[i]! ∈ d.toList := fun i hi => hperm.mem_iff.1 (by rw [getElem!_pos _ i (by omega)]; simp)
  have hmem2 : ∀ i, i < m → d[i]! ∈ d'.toList := fun i hi => hperm.mem_iff.2 (by rw [getElem!_pos _ i (by omega)]; simp)
  refine ⟨rfl, ⟨_, h1, fun i hi => ?_, fun j hj => ?_, fun i j hij hj => ?_⟩, h2⟩
  · obtain ⟨j, hj, e⟩ := List.mem_iff_getElem.1 (hmem i hi)
    have hj' : j < m := by rw [Array.length_toList] at hj; omega
    refine ⟨j, hj', ?_⟩
    show (d'[i]!).1 = H j
    rw [← e, ← hdv j hj', getElem!_pos _ j (by omega)]
    rfl
  · obtain ⟨i, hi, e⟩ := List.mem_iff_getElem.1 (hmem2 j hj)
    have hi' : i < m := by rw [Array.length_toList] at hi; omega
    refine ⟨i, hi', ?_⟩
    show (d'[i]!).1 = H j
    rw [← hdv j hj, ← e, getElem!_pos _ i (by omega)]
    rfl
  · show ord (d'[i]!).1.p < ord (d'[j]!).1.p
    have h5 := hs i j (Nat.zero_le _) hij hj
    rw [ltF] at h5
    have h6 : ¬ ord (d'[j]!).1.p < ord (d'[i]!).1.p := by simpa using h5
    have hpw : d.toList.Pairwise (fun x y => x.1.p ≠ y.1.p) := List.pairwise_iff_getElem.2 (fun a b ha hb hab e => by
      rw [Array.length_toList] at ha hb
      rw [Array.getElem_toList, Array.getElem_toList] at e
      have e2 : (H a).p = (H b).p := by rw [← hdv a (by omega), ← hdv b (by omega), getElem!_pos _ a ha, getElem!_pos _ b hb]; exact e
      have := hd a b (by omega) (by omega) e2
      omega)
    have hpw2 := (hperm.pairwise_iff (fun {x y} (q : x.1.p ≠ y.1.p) => q.symm)).2 hpw
    have h7 := List.pairwise_iff_getElem.1 hpw2 i j (by rw [Array.length_toList]; omega) (by rw [Array.length_toList]; omega) hij
    rw [Array.getElem_toList, Array.getElem_toList] at h7
    have h8 : (d'[i]!).1.p ≠ (d'[j]!).1.p := by rw [getElem!_pos _ i (by omega), getElem!_pos _ j (by omega)]; exact h7
    have h9 : ord (d'[i]!).1.p ≠ ord (d'[j]!).1.p := fun e => h8 (ord_inj (d'[i]!).2 (d'[j]!).2 e)
    omega
end Go.Proofs.Ytglfhajfbdjjcaa
