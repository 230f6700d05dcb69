/-
  slices.SortFunc of files by their paths.
-/
import Derived.Test.YtgcdoabcopihlaaGreatE02
import Derived.Test.YtgcdoabcopihlaaGreatSortL
namespace Go.Proofs.YtgcdoabcopihlaaGreat
open Go.ChangeShapes Go.WideShapes Go.ChangeAt Go.RowKit
set_option linter.unusedVariables false
/-- Files whose paths are short. -/
abbrev ShF := {x : Fi // x.p.size ≤ 40}
instance : Inhabited ShF := ⟨⟨fiZ, by show (0 : Nat) ≤ 40; omega⟩⟩
def encF (x : ShF) : List Value := [.string x.1.p, .bool x.1.d, .string x.1.t]
def cfF (x y : ShF) : Int := cmpI (ord x.1.p) (ord y.1.p)
theorem ltF (x y : ShF) : Go.Proofs.ltOf cfF x y = decide (ord x.1.p < ord y.1.p) := by
  unfold Go.Proofs.ltOf cfF cmpI
  by_cases h1 : ord x.1.p < ord y.1.p
  · simp [h1]
  · by_cases h2 : ord y.1.p < ord x.1.p <;> simp [h1, h2]
theorem swoF : Go.Sort.SWO (Go.Proofs.ltOf cfF) where
  irrefl x := by rw [ltF]; simp
  trans x y z h1 h2 := by rw [ltF] at *; simp at *; omega
  ntrans x y z h1 h2 := by rw [ltF] at *; simp at *; omega
set_option maxRecDepth 100000 in
theorem byPathW (p : ByteArray) (d : Bool) (t q : ByteArray) (hp : p.size ≤ 40) (hq : q.size ≤ 40) (w : World) :
    Calls Tryz.prog 31 #[.agg #[.string p, .bool d, .string t], .string q] w fun e w' => e = .returned (.int .i64 (cmpI (ord p) (ord q))) ∧ w' = w.alloc (.cells #[.string p, .bool d, .string t] 51) := by
  have HC : Hid (∀ w : World, Calls Tryz.prog 68 #[.string p, .string q] w fun e w' => e = .returned (.int .i64 (cmpI (ord p) (ord q))) ∧ w' = w) := compare_any p q hp hq
  generalize cmpI (ord p) (ord q) = r at *
  clear hp hq
  go_enter Tryz.func31, Tryz.ntmps31
  go_wp2_with fail
  refine (HC.out _).mono ?_
  rintro e w' ⟨rfl, rfl⟩
  go_wp2
  go_ret
  exact ⟨rfl, rfl⟩
set_option maxRecDepth 100000 in
theorem cloMv (x y : ShF) (w : World) : Calls Tryz.prog 88 #[.agg #[.string x.1.p, .bool x.1.d, .string x.1.t], .agg #[.string y.1.p, .bool y.1.d, .string y.1.t]] w fun e w' => e = .returned (.int .i64 (cfF x y)) ∧ ∃ q os', w' = Go.Sort.grow (w.drewN q) os' := by
  obtain ⟨⟨xp, xd, xt⟩, hx⟩ := x
  obtain ⟨⟨yp, yd, yt⟩, hy⟩ := y
  have HB : Hid (∀ w : World, Calls Tryz.prog 31 #[.agg #[.string xp, .bool xd, .string xt], .string yp] w fun e w' => e = .returned (.int .i64 (cmpI (ord xp) (ord yp))) ∧ w' = w.alloc (.cells #[.string xp, .bool xd, .string xt] 51)) := byPathW xp xd xt yp hx hy
  unfold cfF
  dsimp only
  generalize cmpI (ord xp) (ord yp) = r at *
  clear hx hy
  go_enter Tryz.func88, Tryz.ntmps88
  go_wp2_with fail
  refine (HB.out _).mono ?_
  rintro e w' ⟨rfl, rfl⟩
  go_wp2
  go_ret
  exact ⟨rfl, 0, _, by rw [Go.Sort.alloc_eq_grow, Go.Sort.alloc_eq_grow, Go.Sort.alloc_eq_grow, Go.Sort.grow_grow, Go.Sort.grow_grow]; rfl⟩
theorem flat_elv (d : Array ShF) (m : Nat) (hd : d.size = m) : (Go.Sort.flatK encF 3 d).toList = elv 3 m (fiF (fun i => (d[i]!).1)) := by
  subst hd
  unfold Go.Sort.flatK elv
  rw [Array.toList_map, Array.toList_range]
  refine List.map_congr_left (fun t ht => ?_)
  have h3 : t % 3 < 3 := Nat.mod_lt _ (by omega)
  show (encF d[t / 3]!)[t % 3]! = fiV (d[t / 3]!).1 (t % 3)
  rcases (show t % 3 = 0 ∨ t % 3 = 1 ∨ t % 3 = 2 by omega) with e | e | e <;> rw [e] <;> rfl
theorem EO.sortedF {w : World} {B g m c : Nat} {H : Nat → Fi} (h : EO w B 51 3 (.slice (some ⟨g, 0, none⟩) m c) m (fiF H)) (d : Array ShF) (hd : d.size = m) (n : Nat) (os : Array Obj) : EO (Go.Proofs.sortWorldK encF 3 w g 0 n d os) B 51 3 (.slice (some ⟨g, 0, none⟩) m c) m (fiF (fun i => (d[i]!).1)) ∧ OnlyB g w (Go.Proofs.sortWorldK encF 3 w g 0 n d os) := by
  obtain ⟨hl, ⟨h1, _⟩ | ⟨g', cap, cur, hv, hB, hh, hn, hm, hs, ht⟩⟩ := h
  · cases h1
  · cases hv
    have hlt : g < w.heap.size := (Array.getElem?_eq_some_iff.1 hh).1
    have hfs : (Go.Sort.flatK encF 3 d).size = m * 3 := by rw [Go.Sort.size_flatK, hd]
    have hblk : (Go.Proofs.sortWorldK encF 3 w g 0 n d os).heap[g]? = some (.cells (Go.Sort.putCells id 0 (Go.Sort.flatK encF 3 d) cur) 51 (0, 0)) := by
      unfold Go.Proofs.sortWorldK Go.Sort.putRowK Go.Sort.putRow Go.Sort.mapBlock Go.Sort.grow Go.Sort.ahead
      rw [Array.getElem?_append_left (by simpa using hlt), Array.getElem?_modify, if_pos rfl, hh]
      rfl
    refine ⟨⟨elv_length _ _ _, .inr ⟨g, c, _, rfl, hB, hblk, hn, hm, by unfold Go.Sort.putCells; rw [Array.size_mapIdx]; exact hs, ?_⟩⟩, ?_⟩
    · rw [← flat_elv d m hd]
      have hcs : m * 3 ≤ cur.size := by
        have h5 := congrArg List.length ht
        rw [elv_length, List.length_take, Array.length_toList] at h5
        omega
      refine List.ext_getElem ?_ (fun i q1 q2 => ?_)
      · rw [List.length_take, Array.length_toList, Array.length_toList, hfs]
        unfold Go.Sort.putCells
        rw [Array.size_mapIdx]
        omega
      · rw [Array.length_toList, hfs] at q2
        rw [List.getElem_take, Array.getElem_toList, Array.getElem_toList]
        unfold Go.Sort.putCells
        rw [Array.getElem_mapIdx, if_pos ⟨Nat.zero_le _, by rw [hfs]; omega⟩, Nat.sub_zero]
        show (Go.Sort.flatK encF 3 d)[i]! = _
        rw [getElem!_pos _ i (by rw [hfs]; exact q2)]
    · unfold Go.Proofs.sortWorldK Go.Sort.putRowK Go.Sort.putRow Go.Sort.mapBlock Go.Sort.grow Go.Sort.ahead
      refine ⟨rfl, rfl, rfl, by simp, fun k hk hne => ?_⟩
      show ((w.heap.modify g _) ++ os)[k]? = _
      rw [Array.getElem?_append_left (by simpa using hk), Array.getElem?_modify, if_neg (fun e => hne e.symm)]
theorem sortMv_any (B g m c : Nat) (H : Nat → Fi) (hz : ∀ i, i < m → (H i).p.size ≤ 40) (hm : m ≤ 100) (hm0 : 0 < m) (hd : ∀ i j, i < m → j < m → (H i).p = (H j).p → i = j) (w : World) (h : EO w B 51 3 (.slice (some ⟨g, 0, none⟩) m c) m (fiF H)) :
    Calls Tryz.prog 87 #[.slice (some ⟨g, 0, none⟩) m c, .func (.func 88) #[] #[]] w fun e w' => e = .returned (.tuple #[]) ∧ (∃ G : Nat → Fi, EO w' B 51 3 (.slice (some ⟨g, 0, none⟩) m c) m (fiF G) ∧ (∀ i, i < m → ∃ j, j < m ∧ G i = H j) ∧ (∀ j, j < m → ∃ i, i < m ∧ G i = H j) ∧ Rises (fun i => ord (G i).p) m) ∧ OnlyB g w w' := by
  obtain ⟨d, hds, hdv⟩ : ∃ d : Array ShF, d.size = m ∧ ∀ i, i < m → (d[i]!).1 = H i := by
    refine ⟨((List.range m).map (fun i => if q : (H i).p.size ≤ 40 then (⟨H i, q⟩ : ShF) else default)).toArray, by simp, fun i hi => ?_⟩
    rw [getElem!_pos _ i (by simpa using hi)]
    simp [hz i hi]
  have eg : ∀ args w, (callFunc 88 args).run Tryz.prog w = .ok (.enter 88 args) w := enters_of Tryz.func88 (by kernel_rfl) rfl
  have hE : EO w B 51 3 (.slice (some ⟨g, 0, none⟩) m c) m (fiF (fun i => (d[i]!).1)) := h.congr (fun i hi j hj => by show fiV (H i) j = fiV (d[i]!).1 j; rw [hdv i hi])
  have hH : Go.Sort.HoldsK encF 3 w g 0 d := fun t ht => by
    rw [Go.Sort.size_flatK, hds] at ht
    obtain ⟨g', hr, _⟩ := hE.rowE
    have hg := hr.a (by omega)
    cases hg
    have h3 : t % 3 < 3 := Nat.mod_lt _ (by omega)
    have hq : t / 3 < m := by omega
    have c0 := hr.c (t / 3) hq (t % 3) h3
    refine ⟨?_, hr.z _ (by omega)⟩
    rw [Go.Sort.get_flatK _ _ _ t (by rw [hds]; exact ht), Nat.zero_add, show t = t / 3 * 3 + t % 3 by omega]
    rw [show (t / 3 * 3 + t % 3) / 3 = t / 3 by omega, show (t / 3 * 3 + t % 3) % 3 = t % 3 by omega]
    rw [c0]
    show some (fiV (d[t / 3]!).1 (t % 3)) = some ((encF d[t / 3]!)[t % 3]!)
    rcases (show t % 3 = 0 ∨ t % 3 = 1 ∨ t % 3 = 2 by omega) with e | e | e <;> rw [e] <;> rfl
  have hcon := Go.Proofs.AnyQ.slices_SortFunc sortFi 3 Tryz.isAgg51 Tryz.sizeOf51 encF (fun _ => rfl) (fun x v hv => by simp [encF] at hv; rcases hv with rfl | rfl | rfl <;> rfl) cfF swoF 88 #[] g 0 c d w eg (fun _ _ _ _ x y => cloMv x y _) hH (h.ge g rfl).2 (by omega)
  rw [hds] at hcon
  refine Calls.mono hcon ?_
  rintro e w' ⟨rfl, d', n, os, hp, hs, rfl⟩
  have hz' : d'.size = m := by rw [hp.1, hds]
  obtain ⟨h1, h2⟩ := h.sortedF d' hz' n os
  have hperm : d'.toList.Perm d.toList := by
    have := hp.2.2
    rwa [← hds, Array.extract_size, show d.size = d'.size from hp.1.symm, Array.extract_size] at this
  have hmem : ∀ i, i < m → d'[i]! ∈ d.toList := fun i hi => hperm.mem_iff.1 (by rw [getElem!_pos _ i (by omega)]; simp)
  have hmem2 : ∀ i, i < m → d[i]! ∈ d'.toList := fun i hi => hperm.mem_iff.2 (by rw [getElem!_pos _ i (by omega)]; simp)
  refine ⟨rfl, ⟨_, h1, fun i hi => ?_, fun j hj => ?_, fun i j hij hj => ?_⟩, h2⟩
  · obtain ⟨j, hj, e⟩ := List.mem_iff_getElem.1 (hmem i hi)
    have hj' : j < m := by rw [Array.length_toList] at hj; omega
    refine ⟨j, hj', ?_⟩
    show (d'[i]!).1 = H j
    rw [← e, ← hdv j hj', getElem!_pos _ j (by omega)]
    rfl
  · obtain ⟨i, hi, e⟩ := List.mem_iff_getElem.1 (hmem2 j hj)
    have hi' : i < m := by rw [Array.length_toList] at hi; omega
    refine ⟨i, hi', ?_⟩
    show (d'[i]!).1 = H j
    rw [← hdv j hj, ← e, getElem!_pos _ i (by omega)]
    rfl
  · show ord (d'[i]!).1.p < ord (d'[j]!).1.p
    have h5 := hs i j (Nat.zero_le _) hij hj
    rw [ltF] at h5
    have h6 : ¬ ord (d'[j]!).1.p < ord (d'[i]!).1.p := by simpa using h5
    have hpw : d.toList.Pairwise (fun x y => x.1.p ≠ y.1.p) := List.pairwise_iff_getElem.2 (fun a b ha hb hab e => by
      rw [Array.length_toList] at ha hb
      rw [Array.getElem_toList, Array.getElem_toList] at e
      have e2 : (H a).p = (H b).p := by rw [← hdv a (by omega), ← hdv b (by omega), getElem!_pos _ a ha, getElem!_pos _ b hb]; exact e
      have := hd a b (by omega) (by omega) e2
      omega)
    have hpw2 := (hperm.pairwise_iff (fun {x y} (q : x.1.p ≠ y.1.p) => q.symm)).2 hpw
    have h7 := List.pairwise_iff_getElem.1 hpw2 i j (by rw [Array.length_toList]; omega) (by rw [Array.length_toList]; omega) hij
    rw [Array.getElem_toList, Array.getElem_toList] at h7
    have h8 : (d'[i]!).1.p ≠ (d'[j]!).1.p := by rw [getElem!_pos _ i (by omega), getElem!_pos _ j (by omega)]; exact h7
    have h9 : ord (d'[i]!).1.p ≠ ord (d'[j]!).1.p := fun e => h8 (ord_inj (d'[i]!).2 (d'[j]!).2 e)
    omega
end Go.Proofs.YtgcdoabcopihlaaGreat

/-
  MoveFile of the program.
-/
namespace Go.Proofs.YtgcdoabcopihlaaGreat
open Go.ChangeShapes Go.WideShapes Go.ChangeAt Go.RowKit
set_option linter.unusedVariables false
theorem mvT_size {fr tp p : ByteArray} (h : Mvd fr p) : (mvT fr tp p).size = tp.size + (p.size - fr.size) := by
  rw [mvT_yes h, ByteArray.size_append, ByteArray.size_extract]
  omega
theorem mvd_le {fr p : ByteArray} (h : Mvd fr p) : fr.size ≤ p.size := by
  have := congrArg ByteArray.size (mvd_join h)
  rw [ByteArray.size_append] at this
  omega
/-- Moved paths are short. -/
theorem mv_short {n : Nat} {F : Nat → Fi} {fr tp : ByteArray} {j : Nat} (hj : j < n) (hp : (F j).p.size ≤ 40) (ht : tp.size ≤ 40) (hl : ¬ ∃ i, i < n ∧ HasPre (F i).p (fr ++ ⟨#[47]⟩) ∧ 40 < tp.size + ((F i).p.size - fr.size)) : (mvT fr tp (F j).p).size ≤ 40 := by
  by_cases hm : Mvd fr (F j).p
  · rw [mvT_size hm]
    rcases hm with e | q
    · rw [e]; omega
    · rcases Nat.lt_or_ge 40 (tp.size + ((F j).p.size - fr.size)) with z | z
      · exact absurd ⟨j, hj, q, z⟩ hl
      · exact z
  · rw [mvT_no hm]; exact hp
set_option maxRecDepth 100000 in
set_option maxHeartbeats 1000000 in
theorem idxMove_none (a : Option Addr) (n c : Nat) (F : Nat → Fi) (q : ByteArray) (Bp : Nat) (hn : n ≤ 1048576) (hf : ∀ i, i < n → (F i).p ≠ q) (w : World) (hp : w.cell? ⟨Bp, 0, none⟩ = some (.string q)) (h : Els w 3 a n (fiF F)) :
    Calls Tryz.prog 109 #[.slice a n c, .func (.func 85) #[] #[.pointer (some ⟨Bp, 0, none⟩)]] w fun e w' => e = .returned (.int .i64 (-1)) ∧ Below w.heap.size w w' := by
  have H : Hid (Els w 3 a n (fiF F)) := h
  have HP : Hid (w.cell? ⟨Bp, 0, none⟩ = some (.string q)) := hp
  have HF : Hid (∀ i, i < n → (F i).p ≠ q) := hf
  clear h hp hf
  go_enter Tryz.func109, Tryz.ntmps109
  go_wp2
  go_loopw [8] (fun i wr => ∃ k : Nat, k ≤ n ∧ i = .int .i64 k ∧ Below w.heap.size w wr) (fun i _ => n - (intOf i).toNat)
  case atStart => exact ⟨0, by omega, rfl, Below.refl _ _⟩
  case round =>
    obtain ⟨k, hk, rfl, hb⟩ := hrel
    have HB : Hid (Below w.heap.size w wr) := hb
    by_cases hlt : k < n
    · have hlt' : (k : Int) < (n : Int) := by omega
      obtain ⟨b, off, rfl, hc⟩ := (H.out.below hb).opened (by omega)
      obtain ⟨c0, c1, c2⟩ := Els.fiC hc k (by omega)
      have DL : Hid (Calls Tryz.prog 85 #[.agg #[.string (F k).p, .bool (F k).d, .string (F k).t], .pointer (some ⟨Bp, 0, none⟩)] wr fun e w' => Says e ((F k).p = q) ∧ Below wr.heap.size wr w') := delMoveFile (F k) q Bp wr ((hb.cell (p := ⟨Bp, 0, none⟩) (strBlock HP.out)).trans HP.out)
      clear hc hb
      go_wp2_with fail
      refine (Calls.mono DL.out) ?_
      rintro e w1 ⟨⟨z, rfl, hz⟩, hb⟩
      have B1 : Hid (Below w.heap.size w w1) := HB.out.trans (hb.mono HB.out.size)
      obtain rfl : z = false := by
        cases z with
        | false => rfl
        | true => exact absurd (hz.1 rfl) (HF.out k hlt)
      clear hz hb DL c0 c1 c2
      go_wp2
      go_roundw
      case rel => exact ⟨k + 1, by omega, by go_num, B1.out⟩
      case measure => simp [intOf]; omega
    · obtain rfl : k = n := by omega
      have hlt' : ¬ (k : Int) < (k : Int) := by omega
      clear hb
      go_wp2
      go_ret
      exact ⟨rfl, HB.out⟩
set_option maxRecDepth 100000 in
theorem deleMove_none (a : Option Addr) (n c : Nat) (F : Nat → Fi) (q : ByteArray) (Bp : Nat) (hn : n ≤ 1048576) (hf : ∀ i, i < n → (F i).p ≠ q) (w : World) (hp : w.cell? ⟨Bp, 0, none⟩ = some (.string q)) (h : Els w 3 a n (fiF F)) :
    Calls Tryz.prog 84 #[.slice a n c, .func (.func 85) #[] #[.pointer (some ⟨Bp, 0, none⟩)]] w fun e w' => e = .returned (.slice a n c) ∧ Below w.heap.size w w' := by
  have IX : Hid (Calls Tryz.prog 109 #[.slice a n c, .func (.func 85) #[] #[.pointer (some ⟨Bp, 0, none⟩)]] w fun e w' => e = .returned (.int .i64 (-1)) ∧ Below w.heap.size w w') := idxMove_none a n c F q Bp hn hf w hp h
  clear h hp hf
  go_enter Tryz.func84, Tryz.ntmps84
  go_wp2_with fail
  refine (Calls.mono IX.out) ?_
  rintro e w1 ⟨rfl, hb⟩
  have HB : Hid (Below w.heap.size w w1) := hb
  clear hb IX
  go_wp2
  go_ret
  exact ⟨rfl, HB.out⟩
/-- What is left of files without the one at tp: how many, and which. -/
structure LeftM (n : Nat) (F : Nat → Fi) (tp : ByteArray) (m : Nat) (H : Nat → Fi) : Prop where
  le : m ≤ n
  src : ∀ i, i < m → ∃ j, j < n ∧ (F j).p ≠ tp ∧ H i = F j
  all : ∀ j, j < n → (F j).p ≠ tp → ∃ i, i < m ∧ H i = F j
  ap : ∀ i i', i < m → i' < m → (H i).p = (H i').p → i = i'
theorem leftM_same {n : Nat} {F : Nat → Fi} {tp : ByteArray} (hs : Srt n F) (h : ∀ j, j < n → (F j).p ≠ tp) : LeftM n F tp n F := ⟨Nat.le_refl _, fun i hi => ⟨i, hi, h i hi, rfl⟩, fun j hj _ => ⟨j, hj, rfl⟩, fun i i' hi hi' e => hs.uniq hi hi' e⟩
theorem leftM_del {n : Nat} {F : Nat → Fi} {tp : ByteArray} {j : Nat} (hs : Srt n F) (hj : j < n) (ej : (F j).p = tp) : LeftM n F tp (n - 1) (delU F j n) := by
  have hv : ∀ i, i < n - 1 → delU F j n i = F (if i < j then i else i + 1) := fun i hi => by
    unfold delU
    split
    · rfl
    · rw [if_pos (by omega)]
  refine ⟨by omega, fun i hi => ?_, fun a ha e => ?_, fun i i' hi hi' e => ?_⟩
  · refine ⟨if i < j then i else i + 1, by split <;> omega, fun e => ?_, hv i hi⟩
    have := hs.uniq (by split <;> omega) hj (e.trans ej.symm)
    split at this <;> omega
  · have hne : a ≠ j := fun q => e (by rw [q]; exact ej)
    rcases Nat.lt_or_ge a j with q | q
    · exact ⟨a, by omega, by rw [hv a (by omega), if_pos q]⟩
    · exact ⟨a - 1, by omega, by rw [hv (a - 1) (by omega), if_neg (by omega), show a - 1 + 1 = a by omega]⟩
  · rw [hv i hi, hv i' hi'] at e
    have := hs.uniq (by split <;> omega) (by split <;> omega) e
    split at this <;> split at this <;> omega
theorem strs_two (w : World) (p q : ByteArray) : Strs (w.alloc (.cells #[.string p, .string q] 9)) (some ⟨w.heap.size, 0, none⟩) 2 (fun i => if i = 0 then p else q) := fun i hi => by
  rcases (show i = 0 ∨ i = 1 by omega) with rfl | rfl
  · exact ⟨w.heap.size, 0, rfl, by simp⟩
  · exact ⟨w.heap.size, 0, rfl, by simp⟩
/-- The files behind a move, sorted. -/
theorem arrM_of {n : Nat} {F : Nat → Fi} {fr tp : ByteArray} {m : Nat} {H G : Nat → Fi} (hl : LeftM n F tp m H) (h1 : ∀ i, i < m → ∃ j, j < m ∧ G i = mvF fr tp (H j)) (h2 : ∀ j, j < m → ∃ i, i < m ∧ G i = mvF fr tp (H j)) (h3 : Rises (fun i => ord (G i).p) m) : ArrM n F fr tp m G :=
  ⟨hl.le, fun i hi => by
    obtain ⟨j, hj, e⟩ := h1 i hi
    obtain ⟨a, ha, na, ea⟩ := hl.src j hj
    exact ⟨a, ha, na, by rw [e, ea]⟩, fun j hj hne => by
    obtain ⟨a, ha, ea⟩ := hl.all j hj hne
    obtain ⟨i, hi, e⟩ := h2 a ha
    exact ⟨i, hi, by rw [e, ea]⟩, h3⟩
theorem mvF_p (fr tp : ByteArray) (x : Fi) : (mvF fr tp x).p = mvT fr tp x.p := rfl
set_option maxRecDepth 100000 in
set_option maxHeartbeats 8000000 in
theorem implMv_any (a : Option Addr) (n c : Nat) (F : Nat → Fi) (fr tp : ByteArray) (hsz : ∀ i, i < n → (F i).p.size ≤ 1048576) (hnn : n ≤ 1048576) (hsl : SlP a n c) (w : World) (h : Els w 3 a n (fiF F)) :
    Calls Tryz.prog 56 #[.slice a n c, .string fr, .string tp] w fun e w' => (∃ m G cd, MvIs n F fr tp m G cd ∧ RetFs m G cd w.heap.size e w') ∧ Below w.heap.size w w' := by
  obtain ⟨u0, hu0⟩ : ∃ u, u = w.alloc (.cells #[.string tp] 9) := ⟨_, rfl⟩
  have U0 : Below w.heap.size w u0 := by rw [hu0]; exact (Below.refl _ _).alloc (Nat.le_refl _) _
  have P0 : Bx1 u0 w.heap.size (.string tp) := by rw [hu0]; exact Bx1.new w _ _
  have S0 : u0.heap.size = w.heap.size + 1 := by rw [hu0]; simp
  obtain ⟨v1, hv1⟩ : ∃ v, v = u0.alloc (.cells #[.string fr, .string tp] 9) := ⟨_, rfl⟩
  have A1 : Below u0.heap.size u0 v1 := by rw [hv1]; exact (Below.refl _ _).alloc (Nat.le_refl _) _
  have FF : Hid (Calls Tryz.prog 78 #[.slice a n c, .slice (some ⟨w.heap.size + 1, 0, none⟩) 2 2] v1 fun e w' => (∃ x : Int, e = .returned (.int .i64 x) ∧ FtIs n F 2 (fun i => if i = 0 then fr else tp) x) ∧ Below v1.heap.size v1 w') := filesFault_any a n c F _ 2 2 (fun i => if i = 0 then fr else tp) hsz hnn hsl (by omega) v1 ((h.below U0).below A1) (by rw [← S0, hv1]; exact strs_two u0 fr tp)
  have BV : Hid (Below w.heap.size w v1) := U0.trans (A1.mono (by omega))
  have PV : Hid (Bx1 v1 w.heap.size (.string tp)) := P0.below A1
  have SV : Hid (w.heap.size + 2 ≤ v1.heap.size) := by show _ ≤ _; rw [hv1]; simp [S0]
  have HW : Hid ((w.alloc (.cells #[.string tp] 9)).alloc (.cells #[.string fr, .string tp] 9) = v1) := by show _ = _; rw [hv1, hu0]
  have H : Hid (Els w 3 a n (fiF F)) := h
  have pc : (w.alloc (.cells #[.string tp] 9)).cell? ⟨w.heap.size, 0, none⟩ = some (.string tp) := (Bx1.new w (.string tp) 9).1
  clear h hsz U0 P0 S0 A1 hv1 hu0
  go_enter Tryz.func56, Tryz.ntmps56
  go_wp2_with fail
  rw [HW.out]
  refine (Calls.mono FF.out) ?_
  rintro e v2 ⟨⟨x, rfl, hx⟩, hb⟩
  have B2 : Hid (Below w.heap.size w v2) := BV.out.trans (hb.mono BV.out.size)
  have P2 : Hid (Bx1 v2 w.heap.size (.string tp)) := PV.out.below hb
  have S2 : Hid (w.heap.size + 2 ≤ v2.heap.size) := by have := hb.size; have := SV.out; show _ ≤ _; omega
  have HX : Hid (FtIs n F 2 (fun i => if i = 0 then fr else tp) x) := hx
  clear hx hb FF BV PV SV HW pc
  by_cases h0 : x = 0
  · subst h0
    obtain ⟨ho, hp, hn4, -⟩ := HX.out.ok
    have hfr : PathOk fr := hp 0 (by omega)
    have htp : PathOk tp := hp 1 (by omega)
    have hn12 := ho.1
    have HO : Hid (FsOk n F) := ho
    have HPP : Hid (PathOk fr ∧ PathOk tp) := ⟨hfr, htp⟩
    have TH : Hid (∀ u : World, Below w.heap.size w u → Calls Tryz.prog 69 #[.slice a n c, .string fr] u fun e w' => Says e (∃ j, j < n ∧ (F j).p = fr) ∧ Below u.heap.size u w') := fun u hb => isThere_any a n c F fr ho.srt hfr.1 hnn u (H.out.below hb)
    have CL : Hid (∀ u : World, Below w.heap.size w u → Calls Tryz.prog 23 #[.slice a n c] u fun e w'' => RetFi n F u.heap.size e w'' ∧ Below u.heap.size u w'') := fun u hb => cloneFi_any a n c F u (by omega) (H.out.below hb) (fun e => by have := hsl.z e; have := hsl.le; omega)
    have MF : Hid (∀ (k : Nat) (u : World), k < n → (F k).p = fr → Below w.heap.size w u → Calls Tryz.prog 83 #[.slice a n c, .string fr, .string tp] u fun e w' => (∃ x : Int, e = .returned (.int .i64 x) ∧ MfIs n F fr tp k x) ∧ Below u.heap.size u w') := fun k u hk ek hb => moveFault_any a n c F fr tp k ho hfr htp hk ek u (H.out.below hb)
    clear ho hp hn4 hfr htp
    go_wp2_with fail
    refine (CL.out _ B2.out).mono ?_
    rintro e v3 ⟨⟨b, d, rfl, he⟩, hb⟩
    have B3 : Hid (Below w.heap.size w v3) := B2.out.trans (hb.mono B2.out.size)
    have E3 : Hid (EO v3 v2.heap.size 51 3 (.slice b n d) n (fiF F)) := he
    have P3 : Hid (Bx1 v3 w.heap.size (.string tp)) := P2.out.below hb
    have S3 : Hid (w.heap.size ≤ v2.heap.size ∧ w.heap.size < v2.heap.size ∧ v2.heap.size ≤ v3.heap.size) := by have := hb.size; have := S2.out; exact ⟨by omega, by omega, by omega⟩
    clear he hb CL B2 P2 S2
    go_wp2_with fail
    refine (TH.out _ B3.out).mono ?_
    rintro e v4 ⟨⟨y, rfl, hy⟩, hb⟩
    have B4 : Hid (Below w.heap.size w v4) := B3.out.trans (hb.mono B3.out.size)
    have E4 : Hid (EO v4 v2.heap.size 51 3 (.slice b n d) n (fiF F)) := E3.out.below hb
    have P4 : Hid (Bx1 v4 w.heap.size (.string tp)) := P3.out.below hb
    have HY : Hid (y = true ↔ ∃ j, j < n ∧ (F j).p = fr) := hy
    clear hy hb TH B3 E3 P3
    cases y with
    | false =>
      have HM : Hid (MvIs n F fr tp n F 5) := .inr ⟨HX.out, .inl ⟨(fun j hj e => by have := HY.out.2 ⟨j, hj, e⟩; cases this), rfl, rfl, rfl⟩⟩
      clear HY HX MF
      go_wp2
      go_ret2
      exact ⟨⟨_, _, _, HM.out, ⟨_, _, rfl, E4.out.mono S3.out.1⟩⟩, B4.out⟩
    | true =>
      obtain ⟨k, hk, ek⟩ := HY.out.1 rfl
      have HK : Hid (k < n ∧ (F k).p = fr) := ⟨hk, ek⟩
      have pc := P4.out.1
      clear HY ek
      by_cases heq : fr = tp
      · have HM : Hid (MvIs n F fr tp n F 0) := .inr ⟨HX.out, .inr ⟨k, hk, HK.out.2, .inl ⟨heq, rfl, rfl, rfl⟩⟩⟩
        subst heq
        have r : (fr.toList == fr.toList) = true := by simp
        clear HX MF
        go_wp2
        go_ret2
        exact ⟨⟨_, _, _, HM.out, ⟨_, _, rfl, E4.out.mono S3.out.1⟩⟩, B4.out⟩
      · have r := textNe heq
        have HNE : Hid (fr ≠ tp) := heq
        clear heq
        go_wp2_with fail
        refine (MF.out k _ hk HK.out.2 B4.out).mono ?_
        rintro e v5 ⟨⟨z, rfl, hz⟩, hb⟩
        have B5 : Hid (Below w.heap.size w v5) := B4.out.trans (hb.mono B4.out.size)
        have E5 : Hid (EO v5 v2.heap.size 51 3 (.slice b n d) n (fiF F)) := E4.out.below hb
        have P5 : Hid (Bx1 v5 w.heap.size (.string tp)) := P4.out.below hb
        have HMF : Hid (MfIs n F fr tp k z) := hz
        clear hz hb MF B4 E4 P4 pc
        by_cases hz0 : z = 0
        · subst hz0
          obtain ⟨q1, q2, q3, q4⟩ : ¬ HasPre tp (fr ++ ⟨#[47]⟩) ∧ DirIs n F (par tp) 0 ∧ (¬ ∃ j, j < n ∧ (F j).p = tp ∧ ((F j).d = true ∨ (F k).d = true)) ∧ (¬ ∃ i, i < n ∧ HasPre (F i).p (fr ++ ⟨#[47]⟩) ∧ 40 < tp.size + ((F i).p.size - fr.size)) := by
            rcases HMF.out with ⟨_, q⟩ | ⟨q1, ⟨_, q⟩ | ⟨q2, ⟨_, q⟩ | ⟨q3, ⟨_, q⟩ | ⟨q4, _⟩⟩⟩⟩
            · exact absurd q (by decide)
            · exact absurd rfl q
            · exact absurd q (by decide)
            · exact absurd q (by decide)
            · exact ⟨q1, q2, q3, q4⟩
          have HMV : Hid (∀ m G, ArrM n F fr tp m G → MvIs n F fr tp m G 0) := fun m G hA => .inr ⟨HX.out, .inr ⟨k, hk, HK.out.2, .inr ⟨HNE.out, .inr ⟨q1, .inr ⟨q2, .inr ⟨q3, .inr ⟨q4, rfl, hA⟩⟩⟩⟩⟩⟩⟩
          have HSH : Hid (∀ j, j < n → (mvT fr tp (F j).p).size ≤ 40) := fun j hj => mv_short hj (HO.out.srt.ok j hj).1 HPP.out.2.1 q4
          have HAP : Hid (∀ i j, i < n → j < n → (F i).p ≠ tp → (F j).p ≠ tp → mvT fr tp (F i).p = mvT fr tp (F j).p → i = j) := fun i j hi hj ei ej e => mv_apart HO.out (pathOk_pos HPP.out.2) (fun j hj e => by
            cases hd : (F j).d with
            | false => rfl
            | true => exact absurd ⟨j, hj, e, .inl hd⟩ q3) hi hj ei ej e
          clear q1 q2 q3 q4 HMF HX
          obtain ⟨g, rfl⟩ : ∃ g, b = some ⟨g, 0, none⟩ := by
            obtain ⟨g, hr, _⟩ := E5.out.rowE
            exact ⟨g, hr.a (by omega)⟩
          have hgB : v2.heap.size ≤ g ∧ g < v5.heap.size := E5.out.ge g rfl
          have GB : Hid (v2.heap.size ≤ g ∧ g < v5.heap.size) := hgB
          have DE : Hid (Calls Tryz.prog 84 #[.slice (some ⟨g, 0, none⟩) n d, .func (.func 85) #[] #[.pointer (some ⟨w.heap.size, 0, none⟩)]] v5 fun e w' => (∃ m H, e = .returned (.slice (some ⟨g, 0, none⟩) m d) ∧ LeftM n F tp m H ∧ EO w' v2.heap.size 51 3 (.slice (some ⟨g, 0, none⟩) m d) m (fiF H)) ∧ OnlyB g v5 w') := by
            by_cases hex : ∃ j, j < n ∧ (F j).p = tp
            · obtain ⟨j, hj, ej⟩ := hex
              exact (deleMoveFile v2.heap.size g n d F tp w.heap.size j HO.out.srt (by omega) hj ej v5 S3.out.2.1 (by have := S3.out.2.2; have := hgB.2; omega) P5.out.1 E5.out).mono fun e w' z => ⟨⟨n - 1, delU F j n, z.1.1, leftM_del HO.out.srt hj ej, z.1.2⟩, z.2⟩
            · have hno : ∀ j, j < n → (F j).p ≠ tp := fun j hj e => hex ⟨j, hj, e⟩
              exact (deleMove_none (some ⟨g, 0, none⟩) n d F tp w.heap.size hnn hno v5 P5.out.1 E5.out.els).mono fun e w' z => ⟨⟨n, F, z.1, leftM_same HO.out.srt hno, E5.out.below z.2⟩, (OnlyB.refl g v5).below z.2⟩
          have MP : Hid (∀ (p : ByteArray) (u : World), p.size ≤ 40 → Calls Tryz.prog 86 #[.string p, .string fr, .string tp] u fun e w' => e = .returned (.string (mvT fr tp p)) ∧ u = w') := fun p u hp => movedPath_any p fr tp (by omega) (by have := HPP.out.1.1; omega) (by have := HPP.out.2.1; omega) u
          clear hgB
          go_wp2_with fail
          refine (Calls.mono DE.out) ?_
          rintro e v6 ⟨⟨m, L, rfl, hLM, hE6⟩, hO6⟩
          have LM : Hid (LeftM n F tp m L) := hLM
          have E6 : Hid (EO v6 v2.heap.size 51 3 (.slice (some ⟨g, 0, none⟩) m d) m (fiF L)) := hE6
          have O6 : Hid (OnlyB g v5 v6) := hO6
          have hmn := hLM.le
          have hm0 : 0 < m := by
            obtain ⟨i, hi, _⟩ := hLM.all k hk (by rw [HK.out.2]; exact HNE.out)
            omega
          clear DE hLM hE6 hO6 E5
          go_wp2
          go_loopw [45] (fun i wr => ∃ q : Nat, q ≤ m ∧ i = .int .i64 q ∧ EO wr v2.heap.size 51 3 (.slice (some ⟨g, 0, none⟩) m d) m (fiF (fun i => if i < q then mvF fr tp (L i) else L i)) ∧ OnlyB g v5 wr) (fun i _ => m - (intOf i).toNat)
          case atStart => exact ⟨0, by omega, rfl, E6.out.congr (fun i hi j hj => by show fiV (L i) j = fiV (if i < 0 then _ else _) j; rw [if_neg (by omega)]), O6.out⟩
          case round =>
            clear E6 O6
            obtain ⟨q, hq, rfl, hE, hO⟩ := hrel
            have E : Hid (EO wr v2.heap.size 51 3 (.slice (some ⟨g, 0, none⟩) m d) m (fiF (fun i => if i < q then mvF fr tp (L i) else L i))) := hE
            have O : Hid (OnlyB g v5 wr) := hO
            clear hE hO
            by_cases hlt : q < m
            · have hlt' : (q : Int) < (m : Int) := by omega
              have hzq : (L q).p.size ≤ 40 := by
                obtain ⟨j, hj, _, e⟩ := LM.out.src q hlt
                rw [e]; exact (HO.out.srt.ok j hj).1
              obtain ⟨c0, c1, c2⟩ := Els.fiC (elsAt0 E.out.els) q hlt
              rw [if_neg (by omega), Nat.zero_add] at c0 c1 c2
              have HMQ : Hid (∀ i, (if i < q + 1 then mvF fr tp (L i) else L i) = if i = q then ⟨mvT fr tp (L q).p, (L q).d, (L q).t⟩ else (if i < q then mvF fr tp (L i) else L i)) := fun i => by
                by_cases e : i = q
                · subst e; rw [if_pos (by omega), if_pos rfl]; rfl
                · rw [if_neg e]
                  by_cases e2 : i < q
                  · rw [if_pos (by omega), if_pos e2]
                  · rw [if_neg (by omega), if_neg e2]
              obtain ⟨y, hy⟩ : ∃ y, y = L q := ⟨_, rfl⟩
              have HLY0 : Hid (L q = y) := hy.symm
              rw [← hy] at hzq c0 c1 c2 HMQ
              clear hy
              obtain ⟨yp, yd, yt⟩ := y
              have HLY : Hid (L q = ⟨yp, yd, yt⟩) := HLY0.out
              clear HLY0
              dsimp only at *
              obtain ⟨v, hv⟩ : ∃ v, v = wr.alloc (.cells #[.string yp, .bool yd, .string yt] 51) := ⟨_, rfl⟩
              have hbv : Below wr.heap.size wr v := by rw [hv]; exact (Below.refl _ _).alloc (Nat.le_refl _) _
              have XB : Box3 v wr.heap.size 51 (.string yp) (.bool yd) (.string yt) := by rw [hv]; exact Box3.made _ _ _ _ _
              have EV : Hid (EO v v2.heap.size 51 3 (.slice (some ⟨g, 0, none⟩) m d) m (fiF (fun i => if i < q then mvF fr tp (L i) else L i))) := E.out.below hbv
              have OV : Hid (OnlyB g v5 v) := O.out.below hbv
              have HV : Hid (wr.alloc (.cells #[.string yp, .bool yd, .string yt] 51) = v) := hv.symm
              have t0 := XB.c0
              have pc : v.cell? ⟨w.heap.size, 0, none⟩ = some (.string tp) := (P5.out.ofBlock (OV.out.block _ P5.out.lt (by have := GB.out.1; have := S3.out.2.1; omega))).1
              rw [← HV.out] at t0 pc
              obtain ⟨g', hrw, _⟩ := EV.out.rowE
              have hgg := hrw.a hm0
              cases hgg
              have cv := hrw.c q hlt 0 (by omega)
              have fv := hrw.z (q * 3) (by omega)
              rw [Nat.add_zero] at cv
              have ES : Hid (EO (v.setCell ⟨g, q * 3, none⟩ (.string (mvT fr tp yp))) v2.heap.size 51 3 (.slice (some ⟨g, 0, none⟩) m d) m (fiF (fun i => if i < q + 1 then mvF fr tp (L i) else L i))) := (EV.out.set hlt (l := 0) (by omega) (.string (mvT fr tp yp))).congr (fun i hi j hj => by
                show setF _ q 0 _ i j = fiV (if i < q + 1 then mvF fr tp (L i) else L i) j
                rw [HMQ.out i]
                unfold setF
                by_cases e : i = q
                · subst e
                  rw [if_pos rfl]
                  by_cases e2 : j = 0
                  · subst e2; rw [if_pos ⟨rfl, rfl⟩]; rfl
                  · rw [if_neg (fun z => e2 z.2)]
                    show fiV (if i < i then mvF fr tp (L i) else L i) j = _
                    rw [if_neg (by omega), HLY.out]
                    rcases (show j = 1 ∨ j = 2 by omega) with rfl | rfl <;> rfl
                · rw [if_neg e, if_neg (fun z => e z.1)]
                  rfl)
              have OS : Hid (OnlyB g v5 (v.setCell ⟨g, q * 3, none⟩ (.string (mvT fr tp yp)))) := OV.out.setCell (q * 3) _
              clear hv hbv XB E O hrw EV HMQ
              go_wp2_with fail
              rw [HV.out]
              refine (MP.out yp _ hzq).mono ?_
              rintro e _ ⟨rfl, rfl⟩
              clear HV c0 c1 c2 t0 pc
              generalize mvT fr tp yp = R at *
              go_wp2
              go_roundw
              case rel => exact ⟨q + 1, by omega, by go_num, ES.out, OS.out⟩
              case measure => simp [intOf]; omega
            · obtain rfl : q = m := by omega
              have hlt' : ¬ (q : Int) < (q : Int) := by omega
              have EM : EO wr v2.heap.size 51 3 (.slice (some ⟨g, 0, none⟩) q d) q (fiF (fun i => mvF fr tp (L i))) := E.out.congr (fun i hi j hj => by show fiV (if i < q then _ else _) j = fiV _ j; rw [if_pos hi])
              have SO : Hid (Calls Tryz.prog 87 #[.slice (some ⟨g, 0, none⟩) q d, .func (.func 88) #[] #[]] wr fun e w' => e = .returned (.tuple #[]) ∧ (∃ G : Nat → Fi, EO w' v2.heap.size 51 3 (.slice (some ⟨g, 0, none⟩) q d) q (fiF G) ∧ (∀ i, i < q → ∃ j, j < q ∧ G i = mvF fr tp (L j)) ∧ (∀ j, j < q → ∃ i, i < q ∧ G i = mvF fr tp (L j)) ∧ Rises (fun i => ord (G i).p) q) ∧ OnlyB g wr w') := sortMv_any v2.heap.size g q d (fun i => mvF fr tp (L i)) (fun i hi => by
                  obtain ⟨j, hj, _, e⟩ := LM.out.src i hi
                  rw [e]; exact HSH.out j hj) (by omega) hm0 (fun i j hi hj e => by
                  obtain ⟨x, hx, nx, ex⟩ := LM.out.src i hi
                  obtain ⟨y, hy, ny, ey⟩ := LM.out.src j hj
                  refine LM.out.ap i j hi hj ?_
                  rw [ex, ey] at e ⊢
                  rw [HAP.out x y hx hy nx ny e]) wr EM
              clear EM E MP
              go_wp2_with fail
              refine (Calls.mono SO.out) ?_
              rintro e v9 ⟨rfl, ⟨G, hG, h1, h2, h3⟩, hO⟩
              have HM : Hid (MvIs n F fr tp q G 0) := HMV.out q G (arrM_of LM.out h1 h2 h3)
              have E9 : Hid (EO v9 v2.heap.size 51 3 (.slice (some ⟨g, 0, none⟩) q d) q (fiF G)) := hG
              have hgw : w.heap.size ≤ g := by have := GB.out.1; have := S3.out.1; omega
              have B9 : Hid (Below w.heap.size w v9) := (B5.out.trans (O.out.toBelow hgw B5.out.size)).trans (hO.toBelow hgw (Nat.le_trans B5.out.size O.out.size))
              clear hG h1 h2 h3 hO SO O HMV HSH HAP
              go_wp2
              go_ret2
              exact ⟨⟨_, _, _, HM.out, ⟨_, _, rfl, E9.out.mono S3.out.1⟩⟩, B9.out⟩
        · have g : (z != 0) = true := by simpa using hz0
          have HM : Hid (MvIs n F fr tp n F z) := by
            refine .inr ⟨HX.out, .inr ⟨k, hk, HK.out.2, .inr ⟨HNE.out, ?_⟩⟩⟩
            rcases HMF.out with ⟨q1, rfl⟩ | ⟨q1, ⟨q2, q3⟩ | ⟨q2, ⟨q3, rfl⟩ | ⟨q3, ⟨q4, rfl⟩ | ⟨q4, q5⟩⟩⟩⟩
            · exact .inl ⟨q1, rfl, rfl, rfl⟩
            · exact .inr ⟨q1, .inl ⟨q2, q3, rfl, rfl⟩⟩
            · exact .inr ⟨q1, .inr ⟨q2, .inl ⟨q3, rfl, rfl, rfl⟩⟩⟩
            · exact .inr ⟨q1, .inr ⟨q2, .inr ⟨q3, .inl ⟨q4, rfl, rfl, rfl⟩⟩⟩⟩
            · exact absurd q5 hz0
          clear HX HMF hz0
          go_wp2
          go_ret2
          exact ⟨⟨_, _, _, HM.out, ⟨_, _, rfl, E5.out.mono S3.out.1⟩⟩, B5.out⟩
  · have g : (x != 0) = true := by simpa using h0
    have HM : Hid (MvIs n F fr tp 0 F x) := .inl ⟨HX.out, h0, rfl⟩
    clear h0 HX
    go_wp2
    go_ret2
    exact ⟨⟨_, _, _, HM.out, retFs_nil _ _ _ _⟩, B2.out⟩
end Go.Proofs.YtgcdoabcopihlaaGreat

/-
  Moves of files by the model: the mathematics of its two lists.
-/
namespace Go.Proofs.YtgcdoabcopihlaaGreat
open Go.ChangeShapes Go.WideShapes Go.ChangeAt Go.RowKit
set_option linter.unusedVariables false
open Classical in
/-- The places of files that stay, of the first i. -/
noncomputable def kpL (F : Nat → Fi) (fr tp : ByteArray) : Nat → List Nat
  | 0 => []
  | i + 1 => kpL F fr tp i ++ (if ¬ Mvd fr (F i).p ∧ (F i).p ≠ tp then [i] else [])
open Classical in
/-- The places of files that are moved, of the first i. -/
noncomputable def mvL (F : Nat → Fi) (fr : ByteArray) : Nat → List Nat
  | 0 => []
  | i + 1 => mvL F fr i ++ (if Mvd fr (F i).p then [i] else [])
theorem kpL_yes {F : Nat → Fi} {fr tp : ByteArray} {i : Nat} (h : ¬ Mvd fr (F i).p) (e : (F i).p ≠ tp) : kpL F fr tp (i + 1) = kpL F fr tp i ++ [i] := by rw [kpL, if_pos ⟨h, e⟩]
theorem kpL_mv {F : Nat → Fi} {fr tp : ByteArray} {i : Nat} (h : Mvd fr (F i).p) : kpL F fr tp (i + 1) = kpL F fr tp i := by rw [kpL, if_neg (fun q => q.1 h), List.append_nil]
theorem kpL_to {F : Nat → Fi} {fr tp : ByteArray} {i : Nat} (e : (F i).p = tp) : kpL F fr tp (i + 1) = kpL F fr tp i := by rw [kpL, if_neg (fun q => q.2 e), List.append_nil]
theorem mvL_yes {F : Nat → Fi} {fr : ByteArray} {i : Nat} (h : Mvd fr (F i).p) : mvL F fr (i + 1) = mvL F fr i ++ [i] := by rw [mvL, if_pos h]
theorem mvL_no {F : Nat → Fi} {fr : ByteArray} {i : Nat} (h : ¬ Mvd fr (F i).p) : mvL F fr (i + 1) = mvL F fr i := by rw [mvL, if_neg h, List.append_nil]
theorem kpL_mem {F : Nat → Fi} {fr tp : ByteArray} {x : Nat} : ∀ {i : Nat}, x ∈ kpL F fr tp i ↔ x < i ∧ ¬ Mvd fr (F x).p ∧ (F x).p ≠ tp
  | 0 => by simp [kpL]
  | i + 1 => by
    rw [kpL, List.mem_append, kpL_mem]
    by_cases h : ¬ Mvd fr (F i).p ∧ (F i).p ≠ tp
    · rw [if_pos h, List.mem_singleton]
      constructor
      · rintro (q | rfl)
        · exact ⟨by omega, q.2⟩
        · exact ⟨by omega, h⟩
      · rintro ⟨q1, q2⟩
        by_cases e : x = i
        · exact .inr e
        · exact .inl ⟨by omega, q2⟩
    · rw [if_neg h]
      constructor
      · rintro (q | q)
        · exact ⟨by omega, q.2⟩
        · cases q
      · rintro ⟨q1, q2⟩
        by_cases e : x = i
        · subst e; exact absurd q2 h
        · exact .inl ⟨by omega, q2⟩
theorem mvL_mem {F : Nat → Fi} {fr : ByteArray} {x : Nat} : ∀ {i : Nat}, x ∈ mvL F fr i ↔ x < i ∧ Mvd fr (F x).p
  | 0 => by simp [mvL]
  | i + 1 => by
    rw [mvL, List.mem_append, mvL_mem]
    by_cases h : Mvd fr (F i).p
    · rw [if_pos h, List.mem_singleton]
      constructor
      · rintro (q | rfl)
        · exact ⟨by omega, q.2⟩
        · exact ⟨by omega, h⟩
      · rintro ⟨q1, q2⟩
        by_cases e : x = i
        · exact .inr e
        · exact .inl ⟨by omega, q2⟩
    · rw [if_neg h]
      constructor
      · rintro (q | q)
        · exact ⟨by omega, q.2⟩
        · cases q
      · rintro ⟨q1, q2⟩
        by_cases e : x = i
        · subst e; exact absurd q2 h
        · exact .inl ⟨by omega, q2⟩
theorem lists_len (F : Nat → Fi) (fr tp : ByteArray) : ∀ i, (kpL F fr tp i).length + (mvL F fr i).length ≤ i
  | 0 => Nat.le_refl _
  | i + 1 => by
    have := lists_len F fr tp i
    by_cases h : Mvd fr (F i).p
    · rw [kpL_mv h, mvL_yes h, List.length_append]; simp; omega
    · rw [mvL_no h]
      by_cases e : (F i).p = tp
      · rw [kpL_to e]; omega
      · rw [kpL_yes h e, List.length_append]; simp; omega
/-- Each list goes up. -/
theorem kpL_up (F : Nat → Fi) (fr tp : ByteArray) : ∀ i, (kpL F fr tp i).Pairwise (· < ·)
  | 0 => List.Pairwise.nil
  | i + 1 => by
    rw [kpL]
    refine List.pairwise_append.2 ⟨kpL_up F fr tp i, by split <;> simp, fun a ha b hb => ?_⟩
    have h1 := (kpL_mem.1 ha).1
    split at hb
    · obtain rfl := List.mem_singleton.1 hb; exact h1
    · cases hb
theorem mvL_up (F : Nat → Fi) (fr : ByteArray) : ∀ i, (mvL F fr i).Pairwise (· < ·)
  | 0 => List.Pairwise.nil
  | i + 1 => by
    rw [mvL]
    refine List.pairwise_append.2 ⟨mvL_up F fr i, by split <;> simp, fun a ha b hb => ?_⟩
    have h1 := (mvL_mem.1 ha).1
    split at hb
    · obtain rfl := List.mem_singleton.1 hb; exact h1
    · cases hb
def nAt (L : List Nat) (r : Nat) : Nat := L.getD r 0
theorem nAt_mem {L : List Nat} {r : Nat} (h : r < L.length) : nAt L r ∈ L := by unfold nAt; simp [h]
theorem nAt_lt {L : List Nat} (h : L.Pairwise (· < ·)) {r s : Nat} (hrs : r < s) (hs : s < L.length) : nAt L r < nAt L s := by
  have := List.pairwise_iff_getElem.1 h r s (by omega) hs hrs
  unfold nAt
  simpa [hs, show r < L.length by omega] using this
theorem nAt_of {L : List Nat} {x : Nat} (h : x ∈ L) : ∃ r, r < L.length ∧ nAt L r = x := by
  obtain ⟨r, hr, e⟩ := List.mem_iff_getElem.1 h
  exact ⟨r, hr, by unfold nAt; simp [hr, e]⟩
theorem nAt_snoc (L : List Nat) (x : Nat) (r : Nat) (h : r < L.length + 1) : nAt (L ++ [x]) r = if r = L.length then x else nAt L r := by
  unfold nAt
  by_cases e : r = L.length
  · subst e; simp
  · rw [if_neg e]
    simp [List.getD_eq_getElem?_getD, List.getElem?_append_left (show r < L.length by omega)]
/-- What has been put so far. -/
def MemP (F : Nat → Fi) (fr tp : ByteArray) (n r : Nat) (y : Fi) : Prop := (∃ x, x ∈ kpL F fr tp n ∧ y = mvF fr tp (F x)) ∨ ∃ s, s < r ∧ y = mvF fr tp (F (nAt (mvL F fr n) s))
structure InvP (F : Nat → Fi) (fr tp : ByteArray) (n r m : Nat) (K : Nat → Fi) : Prop where
  len : m = (kpL F fr tp n).length + r
  src : ∀ i, i < m → MemP F fr tp n r (K i)
  all : ∀ y, MemP F fr tp n r y → ∃ i, i < m ∧ K i = y
  up : Rises (fun i => ord (K i).p) m
theorem mvF_kp {F : Nat → Fi} {fr tp : ByteArray} {n x : Nat} (h : x ∈ kpL F fr tp n) : mvF fr tp (F x) = F x := by
  unfold mvF
  rw [mvT_no (kpL_mem.1 h).2.1]
theorem invP_start {n : Nat} {F : Nat → Fi} {fr tp : ByteArray} (hs : Srt n F) : InvP F fr tp n 0 (kpL F fr tp n).length (fun r => F (nAt (kpL F fr tp n) r)) := by
  refine ⟨rfl, fun i hi => .inl ⟨_, nAt_mem hi, (mvF_kp (nAt_mem hi)).symm⟩, fun y hy => ?_, fun i j hij hj => ?_⟩
  · rcases hy with ⟨x, hx, rfl⟩ | ⟨s, hs', _⟩
    · obtain ⟨r, hr, e⟩ := nAt_of hx
      exact ⟨r, hr, by show F (nAt _ r) = _; rw [e, mvF_kp hx]⟩
    · omega
  · have h1 := nAt_lt (kpL_up F fr tp n) hij hj
    exact hs.up _ _ h1 (kpL_mem.1 (nAt_mem hj)).1
theorem ins_rises {f : Nat → Int} {n k : Nat} {x : Int} (h : Rises f n) (hp : Pos f n x k) (hne : ∀ i, i < n → f i ≠ x) : Rises (insE f k x) (n + 1) := fun i j hij hj => by
  obtain ⟨h1, h2, h3⟩ := hp
  rcases Nat.lt_trichotomy i k with a | a | a
  · rw [insE_lt _ _ a]
    rcases Nat.lt_trichotomy j k with b | b | b
    · rw [insE_lt _ _ b]; exact h i j hij (by omega)
    · subst b; rw [insE_eq]; exact h2 i a
    · rw [insE_gt _ _ b]; exact h i (j - 1) (by omega) (by omega)
  · subst a
    rw [insE_eq, insE_gt _ _ hij]
    have h4 := h3 (j - 1) (by omega) (by omega)
    have h5 := hne (j - 1) (by omega)
    omega
  · rw [insE_gt _ _ a, insE_gt _ _ (by omega)]
    exact h (i - 1) (j - 1) (by omega) (by omega)
/-- One more is put. -/
theorem InvP.put {n : Nat} {F : Nat → Fi} {fr tp : ByteArray} {r m m' : Nat} {K G : Nat → Fi} (h : InvP F fr tp n r m K) (hr : r < (mvL F fr n).length) (hap : ∀ i j, i < n → j < n → (F i).p ≠ tp → (F j).p ≠ tp → mvT fr tp (F i).p = mvT fr tp (F j).p → i = j) (hmt : ∀ j, j < n → Mvd fr (F j).p → (F j).p ≠ tp) (hsh : ∀ j, j < n → (mvT fr tp (F j).p).size ≤ 40)
    (hp : PutIs m K (mvF fr tp (F (nAt (mvL F fr n) r))) m' G) : InvP F fr tp n (r + 1) m' G := by
  obtain ⟨a, ha⟩ : ∃ a, a = nAt (mvL F fr n) r := ⟨_, rfl⟩
  have hma := mvL_mem.1 (ha ▸ nAt_mem hr)
  rw [← ha] at hp
  have hne : ∀ y, MemP F fr tp n r y → y.p ≠ (mvF fr tp (F a)).p := fun y hy e => by
    rcases hy with ⟨x, hx, rfl⟩ | ⟨s, hs, rfl⟩
    · have hm := kpL_mem.1 hx
      have := hap x a hm.1 hma.1 hm.2.2 (hmt a hma.1 hma.2) e
      subst this
      exact hm.2.1 hma.2
    · have hm := mvL_mem.1 (nAt_mem (show s < (mvL F fr n).length by omega))
      have := hap _ a hm.1 hma.1 (hmt _ hm.1 hm.2) (hmt a hma.1 hma.2) e
      have h2 := nAt_lt (mvL_up F fr n) hs hr
      rw [this, ha] at h2
      omega
  have hsz : ∀ y, MemP F fr tp n r y → y.p.size ≤ 40 := fun y hy => by
    rcases hy with ⟨x, hx, rfl⟩ | ⟨s, hs, rfl⟩
    · exact hsh x (kpL_mem.1 hx).1
    · exact hsh _ (mvL_mem.1 (nAt_mem (show s < (mvL F fr n).length by omega))).1
  rcases hp with ⟨k, hk, e, _, _⟩ | ⟨_, rfl, k, hP, hG⟩
  · exact absurd e (hne _ (h.src k hk))
  · have hkm := hP.1
    have hG' : ∀ i, i < m + 1 → G i = insE K k (mvF fr tp (F a)) i := hG
    have hmem : ∀ i, i < m + 1 → G i = mvF fr tp (F a) ∨ ∃ j, j < m ∧ G i = K j := fun i hi => by
      rw [hG' i hi]
      rcases Nat.lt_trichotomy i k with q | q | q
      · rw [insE_lt _ _ q]; exact .inr ⟨i, by omega, rfl⟩
      · subst q; rw [insE_eq]; exact .inl rfl
      · rw [insE_gt _ _ q]; exact .inr ⟨i - 1, by omega, rfl⟩
    refine ⟨by have := h.len; omega, fun i hi => ?_, fun y hy => ?_, ?_⟩
    · rcases hmem i hi with e | ⟨j, hj, e⟩
      · exact .inr ⟨r, by omega, by rw [e, ha]⟩
      · rw [e]
        rcases h.src j hj with q | ⟨s, hs, q⟩
        · exact .inl q
        · exact .inr ⟨s, by omega, q⟩
    · have old : ∀ y, MemP F fr tp n r y → ∃ i, i < m + 1 ∧ G i = y := fun y hy => by
        obtain ⟨j, hj, e⟩ := h.all y hy
        rcases Nat.lt_or_ge j k with q | q
        · exact ⟨j, by omega, by rw [hG' j (by omega), insE_lt _ _ q]; exact e⟩
        · exact ⟨j + 1, by omega, by rw [hG' (j + 1) (by omega), insE_gt _ _ (by omega)]; exact e⟩
      rcases hy with q | ⟨s, hs, q⟩
      · exact old y (.inl q)
      · rcases Nat.lt_or_ge s r with z | z
        · exact old y (.inr ⟨s, z, q⟩)
        · obtain rfl : s = r := by omega
          exact ⟨k, by omega, by rw [hG' k (by omega), insE_eq, q, ha]⟩
    · have h8 : Rises (insE (fun i => ord (K i).p) k (ord (mvF fr tp (F a)).p)) (m + 1) := ins_rises h.up hP (fun i hi e => by
        have h9 := h.src i hi
        exact hne _ h9 (ord_inj (hsz _ h9) (hsh a hma.1) e))
      intro i j hij hj
      have e1 : ∀ i, i < m + 1 → ord (G i).p = insE (fun i => ord (K i).p) k (ord (mvF fr tp (F a)).p) i := fun i hi => by
        rw [hG' i hi]
        unfold insE
        split
        · rfl
        · split <;> rfl
      show ord (G i).p < ord (G j).p
      rw [e1 i (by omega), e1 j hj]
      exact h8 i j hij hj
/-- Behind all. -/
theorem InvP.arr {n : Nat} {F : Nat → Fi} {fr tp : ByteArray} {m : Nat} {K : Nat → Fi} (h : InvP F fr tp n (mvL F fr n).length m K) (hmt : ∀ j, j < n → Mvd fr (F j).p → (F j).p ≠ tp) : ArrM n F fr tp m K := by
  refine ⟨by have := h.len; have := lists_len F fr tp n; omega, fun i hi => ?_, fun j hj hne => h.all _ ?_, h.up⟩
  · rcases h.src i hi with ⟨x, hx, e⟩ | ⟨s, hs, e⟩
    · have hm := kpL_mem.1 hx; exact ⟨x, hm.1, hm.2.2, e⟩
    · have hm := mvL_mem.1 (nAt_mem hs); exact ⟨_, hm.1, hmt _ hm.1 hm.2, e⟩
  · by_cases hm : Mvd fr (F j).p
    · obtain ⟨s, hs, e⟩ := nAt_of (mvL_mem.2 ⟨hj, hm⟩)
      exact .inr ⟨s, hs, by rw [e]⟩
    · exact .inl ⟨j, kpL_mem.2 ⟨hj, hm, hne⟩, rfl⟩
theorem mvd_ne {fr tp p : ByteArray} (h : Mvd fr p) (h1 : fr ≠ tp) (h2 : ¬ HasPre tp (fr ++ ⟨#[47]⟩)) : p ≠ tp := fun e => by
  subst e
  rcases h with q | q
  · exact h1 q.symm
  · exact h2 q
end Go.Proofs.YtgcdoabcopihlaaGreat
