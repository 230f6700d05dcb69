/-
  strings.CutPrefix, and the program's iterator over what stands below a path.
-/
import Derived.Test.YtgcdoabcopihlaaGreatFileFt
namespace Go.Proofs.YtgcdoabcopihlaaGreat
open Go.ChangeShapes Go.WideShapes Go.ChangeAt Go.RowKit Go.Shelf
set_option linter.unusedVariables false
attribute [local go_sem] Oper.semAt_some
/-- A text begins with another. -/
def HasPre (s t : ByteArray) : Prop := t.size ≤ s.size ∧ s.extract 0 t.size = t
set_option maxRecDepth 100000 in
theorem hasPre_any (s t : ByteArray) (w : World) : Calls Tryz.prog 123 #[.string s, .string t] w fun e w' => Says e (HasPre s t) ∧ w' = w := by
  by_cases h : t.size ≤ s.size
  · have h' : (t.size : Int) ≤ (s.size : Int) := by omega
    have c0 : (0 : Int) ≤ (t.size : Int) := by omega
    by_cases he : s.extract 0 t.size = t
    · have g : ((s.extract 0 t.size).toList == t.toList) = true := by rw [he]; simp
      have HP : Hid (HasPre s t) := ⟨h, he⟩
      clear he h
      go_enter Tryz.func123, Tryz.ntmps123
      go_wp2
      go_ret
      exact ⟨⟨true, rfl, by simpa using HP.out⟩, rfl⟩
    · have g : ((s.extract 0 t.size).toList == t.toList) = false := textNe he
      have HP : Hid (¬ HasPre s t) := fun q => he q.2
      clear he h
      go_enter Tryz.func123, Tryz.ntmps123
      go_wp2
      go_ret
      exact ⟨⟨false, rfl, by simpa using HP.out⟩, rfl⟩
  · have h' : ¬ (t.size : Int) ≤ (s.size : Int) := by omega
    have HP : Hid (¬ HasPre s t) := fun q => h q.1
    clear h
    go_enter Tryz.func123, Tryz.ntmps123
    go_wp2
    go_ret
    exact ⟨⟨false, rfl, by simpa using HP.out⟩, rfl⟩
/-- What CutPrefix hands back. -/
def CutP (s t : ByteArray) (e : Ending) : Prop := (HasPre s t ∧ e = .returned (.tuple #[.string (s.extract t.size s.size), .bool true])) ∨ (¬ HasPre s t ∧ e = .returned (.tuple #[.string s, .bool false]))
set_option maxRecDepth 100000 in
theorem cutPre_lite (s t : ByteArray) (w : World) : Calls Tryz.prog 124 #[.string s, .string t] w fun e w' => CutP s t e ∧ w' = w := by
  have HP : Hid (∀ w : World, Calls Tryz.prog 123 #[.string s, .string t] w fun e w' => Says e (HasPre s t) ∧ w' = w) := hasPre_any s t
  go_enter Tryz.func124, Tryz.ntmps124
  go_wp2_with fail
  refine (HP.out _).mono ?_
  rintro e w1 ⟨⟨b, rfl, hb⟩, rfl⟩
  have HB : Hid (b = true ↔ HasPre s t) := hb
  clear hb HP
  cases b with
  | true =>
    have hp : HasPre s t := HB.out.1 rfl
    have c0 : (0 : Int) ≤ (t.size : Int) := by omega
    have c1 : (t.size : Int) ≤ (s.size : Int) := by have := hp.1; omega
    have HC : Hid (CutP s t (.returned (.tuple #[.string (s.extract t.size s.size), .bool true]))) := .inl ⟨hp, rfl⟩
    clear HB hp
    go_wp2
    go_ret2
    exact ⟨HC.out, rfl⟩
  | false =>
    have HC : Hid (CutP s t (.returned (.tuple #[.string s, .bool false]))) := .inr ⟨(fun q => by have := HB.out.2 q; cases this), rfl⟩
    clear HB
    go_wp2
    go_ret2
    exact ⟨HC.out, rfl⟩
set_option maxRecDepth 100000 in
theorem cutPre_any (s t : ByteArray) (w : World) : Calls Tryz.prog 110 #[.string s, .string t] w fun e w' => CutP s t e ∧ w' = w := by
  have HP : Hid (∀ w : World, Calls Tryz.prog 124 #[.string s, .string t] w fun e w' => CutP s t e ∧ w' = w) := cutPre_lite s t
  go_enter Tryz.func110, Tryz.ntmps110
  go_wp2_with fail
  refine (HP.out _).mono ?_
  rintro e w1 ⟨hc, rfl⟩
  rcases hc with ⟨hp, rfl⟩ | ⟨hp, rfl⟩
  · have HC : Hid (CutP s t (.returned (.tuple #[.string (s.extract t.size s.size), .bool true]))) := .inl ⟨hp, rfl⟩
    clear hp HP
    go_wp2
    go_ret2
    exact ⟨HC.out, rfl⟩
  · have HC : Hid (CutP s t (.returned (.tuple #[.string s, .bool false]))) := .inr ⟨hp, rfl⟩
    clear hp HP
    go_wp2
    go_ret2
    exact ⟨HC.out, rfl⟩
/-- What is kept of the blocks of which Q holds. -/
structure KpQ (Q : Nat → Prop) (W W' : World) : Prop where
  size : W.heap.size ≤ W'.heap.size
  same : ∀ g, Q g → W'.heap[g]? = W.heap[g]?
theorem KpQ.refl (Q : Nat → Prop) (W : World) : KpQ Q W W := ⟨Nat.le_refl _, fun _ _ => rfl⟩
theorem KpQ.tr {Q : Nat → Prop} {A B C : World} (h : KpQ Q A B) (k : KpQ Q B C) : KpQ Q A C := ⟨Nat.le_trans h.size k.size, fun g hg => (k.same g hg).trans (h.same g hg)⟩
theorem KpQ.put {Q : Nat → Prop} {w : World} (hQ : ∀ g, Q g → g < w.heap.size) (W : World) (l : Nat) (o o' : Obj) (hl : w.heap.size ≤ l) (h : W.heap[l]? = some o) : KpQ Q W (W.putObj l o') :=
  ⟨by simp, fun g hg => World.putObj_heap_other (fun e => by have := hQ g hg; omega)⟩
theorem KpQ.els {Q : Nat → Prop} {W W' : World} (h : KpQ Q W W') {s : Nat} {a : Option Addr} {n : Nat} {F : Nat → Nat → Value} (hE : Els W s a n F) (hQ : 0 < n → ∀ p, a = some p → Q p.block) : Els W' s a n F := fun i hi => by
  replace hQ := hQ (by omega)
  obtain ⟨b, off, rfl, hc⟩ := hE i hi
  exact ⟨b, off, rfl, fun j hj => by rw [World.cell?_of_block (w := W) (h.same b (hQ _ rfl))]; exact hc j hj⟩
theorem KpQ.cell {Q : Nat → Prop} {W W' : World} (h : KpQ Q W W') {b o : Nat} {v : Value} (hc : W.cell? ⟨b, o, none⟩ = some v) (hQ : Q b) : W'.cell? ⟨b, o, none⟩ = some v := by
  rw [World.cell?_of_block (w := W) (h.same b hQ)]; exact hc
/-- What stands ahead of what stands below. -/
def aheadT (q : ByteArray) : ByteArray := if q.size = 0 then ⟨#[]⟩ else q ++ ⟨#[47]⟩
open Classical in
/-- What stands below, of the first k, with its path from there on. -/
noncomputable def blw (F : Nat → Fi) (h : ByteArray) : Nat → List (ByteArray × Fi)
  | 0 => []
  | k + 1 => blw F h k ++ (if HasPre (F k).p h then [((F k).p.extract h.size (F k).p.size, F k)] else [])
theorem blw_yes {F : Nat → Fi} {h : ByteArray} {k : Nat} (p : HasPre (F k).p h) : blw F h (k + 1) = blw F h k ++ [((F k).p.extract h.size (F k).p.size, F k)] := by
  rw [blw, if_pos p]
theorem blw_no {F : Nat → Fi} {h : ByteArray} {k : Nat} (p : ¬ HasPre (F k).p h) : blw F h (k + 1) = blw F h k := by
  rw [blw, if_neg p, List.append_nil]
theorem blw_pre (F : Nat → Fi) (h : ByteArray) (k : Nat) : ∀ m, blw F h k <+: blw F h (k + m)
  | 0 => List.prefix_refl _
  | m + 1 => (blw_pre F h k m).trans ⟨_, rfl⟩
theorem blw_mem {F : Nat → Fi} {h : ByteArray} {x : ByteArray × Fi} : ∀ {n : Nat}, x ∈ blw F h n ↔ ∃ i, i < n ∧ HasPre (F i).p h ∧ x = ((F i).p.extract h.size (F i).p.size, F i)
  | 0 => by simp [blw]
  | n + 1 => by
    rw [blw, List.mem_append, blw_mem]
    constructor
    · rintro (⟨i, hi, r⟩ | r)
      · exact ⟨i, by omega, r⟩
      · by_cases p : HasPre (F n).p h
        · rw [if_pos p] at r; exact ⟨n, by omega, p, by simpa using r⟩
        · rw [if_neg p] at r; cases r
    · rintro ⟨i, hi, p, rfl⟩
      by_cases e : i = n
      · subst e; right; rw [if_pos p]; simp
      · left; exact ⟨i, by omega, p, rfl⟩
def encB (x : ByteArray × Fi) : Array Value := #[.string x.1, .agg #[.string x.2.p, .bool x.2.d, .string x.2.t]]
set_option maxRecDepth 100000 in
set_option maxHeartbeats 4000000 in
theorem below_stops (Q : Nat → Prop) (Bp Bl : Nat) (a : Option Addr) (n c : Nat) (F : Nat → Fi) (q : ByteArray) (w : World) (m : Nat) (hp : w.cell? ⟨Bp, 0, none⟩ = some (.string q)) (hl : w.cell? ⟨Bl, 0, none⟩ = some (.slice a n c)) (hE : Els w 3 a n (fiF F)) (hQp : Q Bp) (hQl : Q Bl) (hQa : 0 < n → ∀ p, a = some p → Q p.block) (hn : n ≤ 4096) (hqs : q.size ≤ 40) (hQw : ∀ g, Q g → g < w.heap.size) :
    SeqStopsK Fence.wide m Tryz.prog 113 #[.pointer (some ⟨Bp, 0, none⟩), .pointer (some ⟨Bl, 0, none⟩)] encB (KpQ Q) (fun xs => xs = blw F (aheadT q) n) (fun pre => pre <+: blw F (aheadT q) n) (blw F (aheadT q) n).length w := fun l J Jx W hW hJ hJx hY h0 => by
  have hp' : W.cell? ⟨Bp, 0, none⟩ = some (.string q) := by rw [hW.cell (p := ⟨Bp, 0, none⟩) (strBlock hp)]; exact hp
  have hl' : W.cell? ⟨Bl, 0, none⟩ = some (.slice a n c) := by rw [hW.cell (p := ⟨Bl, 0, none⟩) (strBlock hl)]; exact hl
  have HE : Hid (Els W 3 a n (fiF F)) := hE.below hW
  have HC : Hid (∀ (s t : ByteArray) (w : World), CallsIn Fence.wide (m - 1) Tryz.prog 110 #[.string s, .string t] w fun e w' => CutP s t e ∧ w' = w) := fun s t w => callsIn_wide.2 (cutPre_any s t w)
  obtain ⟨ah, hah⟩ : ∃ x, x = aheadT q := ⟨_, rfl⟩
  have HAH : Hid (ah = aheadT q) := hah
  rw [← hah] at hY ⊢
  clear hp hl hE hah
  have hqa : q.size + 1 ≤ 9223372036854775807 := by omega
  have hqb : ¬ 9223372036854775807 < q.size + 1 := by omega
  rcases Nat.eq_zero_or_pos q.size with hz | hz
  · obtain rfl : q = ⟨#[]⟩ := ByteArray.ext (Array.eq_empty_of_size_eq_zero hz)
    obtain rfl : ⟨#[]⟩ = ah := by rw [HAH.out]; rfl
    clear HAH hz
    refine callsIn_of_wp Tryz.func113 rfl trivial ?_ rfl
    simp only [Tryz.ntmps113, List.size_toArray, List.length_cons, List.length_nil, Nat.reduceAdd, Nat.reduceSub, Array.replicate_succ, Array.replicate_zero, List.push_toArray, List.append_toArray, List.nil_append, List.cons_append]
    gi_wp2
    gi_loopw [15] (fun i wr => ∃ k : Nat, k ≤ n ∧ i = .int .i64 k ∧ J (blw F (⟨#[]⟩ : ByteArray) k) wr ∧ KpQ Q W wr) (fun i _ => n - (intOf i).toNat)
    case atStart => exact ⟨0, by omega, rfl, h0, KpQ.refl _ _⟩
    case round =>
      obtain ⟨k, hk, rfl, hJs, hkp⟩ := hrel
      have HK : Hid (KpQ Q W wr) := hkp
      by_cases hlt : k < n
      · have hlt' : (k : Int) < (n : Int) := by omega
        obtain ⟨b, off, ha, hc⟩ := (hkp.els HE.out hQa).opened (by omega)
        cases ha
        obtain ⟨c0, c1, c2⟩ := Els.fiC hc k hlt
        have HF : Hid (HasPre (F k).p (⟨#[]⟩ : ByteArray) → blw F (⟨#[]⟩ : ByteArray) (k + 1) = blw F (⟨#[]⟩ : ByteArray) k ++ [((F k).p.extract (⟨#[]⟩ : ByteArray).size (F k).p.size, F k)]) := fun p => blw_yes p
        have HG : Hid (¬ HasPre (F k).p (⟨#[]⟩ : ByteArray) → blw F (⟨#[]⟩ : ByteArray) (k + 1) = blw F (⟨#[]⟩ : ByteArray) k) := fun p => blw_no p
        have HPr : Hid (blw F (⟨#[]⟩ : ByteArray) (k + 1) <+: blw F (⟨#[]⟩ : ByteArray) n) := by have := blw_pre F (⟨#[]⟩ : ByteArray) (k + 1) (n - (k + 1)); rwa [show k + 1 + (n - (k + 1)) = n by omega] at this
        generalize hy0 : F k = y at *
        clear hy0
        obtain ⟨yp, yd, yt⟩ := y
        dsimp only at *
        clear hc
        obtain ⟨v, hv⟩ : ∃ v, v = wr.alloc (.cells #[.string yp, .bool yd, .string yt] 51) := ⟨_, rfl⟩
        have hJv : J (blw F (⟨#[]⟩ : ByteArray) k) v := by rw [hv]; exact hJ _ wr _ none hJs (World.grownBy_alloc _ _ _) (fun r e => by cases e)
        have XB : Box3 v wr.heap.size 51 (.string yp) (.bool yd) (.string yt) := by rw [hv]; exact Box3.made _ _ _ _ _
        have KV : Hid (KpQ Q W v) := HK.out.tr (by rw [hv]; exact ⟨by simp, fun g hg => Below.heap_alloc _ _ _ (by have := hQw g hg; have := HK.out.size; have := hW.size; omega)⟩)
        have HV : Hid (wr.alloc (.cells #[.string yp, .bool yd, .string yt] 51) = v) := hv.symm
        have t0 := XB.c0
        have t1 := XB.c1
        have t2 := XB.c2
        clear hv hJs XB
        gi_wp2_with fail
        rw [HV.out]
        refine ⟨trivial, fun h => by (cases h), (HC.out _ _ _).mono ?_⟩
        rintro e w' ⟨hcp, rfl⟩
        clear HV c0 c1 c2
        rcases hcp with ⟨hpre, rfl⟩ | ⟨hpre, rfl⟩
        · have hb1 := HF.out hpre
          have hlen : (blw F (⟨#[]⟩ : ByteArray) k).length < (blw F (⟨#[]⟩ : ByteArray) n).length := by
            have := HPr.out.length_le
            rw [hb1, List.length_append] at this
            simp at this
            omega
          obtain ⟨fn, tmps, assign, body, hy, hR⟩ := hY (blw F (⟨#[]⟩ : ByteArray) k) (yp.extract (⟨#[]⟩ : ByteArray).size yp.size, ⟨yp, yd, yt⟩) w' hJv hlen
          dsimp only [encB] at hy
          rw [show (⟨#[]⟩ : ByteArray).size = 0 from rfl, ByteArray.extract_zero_size] at hy
          have HB1 : Hid (blw F (⟨#[]⟩ : ByteArray) (k + 1) = blw F (⟨#[]⟩ : ByteArray) k ++ [(yp.extract (⟨#[]⟩ : ByteArray).size yp.size, ⟨yp, yd, yt⟩)]) := hb1
          clear hpre hb1 HF HG
          gi_wp2
          refine ⟨fun h => by (cases h), hR.mono ?_⟩
          rintro e W3 (⟨rfl, hJ3, hk3⟩ | ⟨rfl, hJx3⟩)
          · rw [← HB1.out] at hJ3
            have K3 : Hid (KpQ Q W W3) := KV.out.tr hk3
            clear hk3
            gi_wp2
            go_roundw
            case rel => exact ⟨k + 1, by omega, by go_num, hJ3, K3.out⟩
            case measure => simp [intOf]; omega
          · rw [← HB1.out] at hJx3
            gi_wp2
            refine bodyPost_ret (results_none rfl _ _ _) rfl ?_
            exact ⟨⟨_, rfl⟩, .inr ⟨_, HPr.out, hJx3⟩⟩
        · have hb1 := HG.out hpre
          rw [← hb1] at hJv
          clear hpre hb1 HF HG
          gi_wp2
          refine ⟨fun _ h => (by cases h), ?_⟩
          gi_wp2
          go_roundw
          case rel => exact ⟨k + 1, by omega, by go_num, hJv, KV.out⟩
          case measure => simp [intOf]; omega
      · obtain rfl : k = n := by omega
        have hlt' : ¬ (k : Int) < (k : Int) := by omega
        gi_wp2
        go_end0
        exact ⟨⟨_, rfl⟩, .inl hJs⟩
  · have g1 : (q.toList == []) = false := textEmpty hz
    have g2 : q.toList.isEmpty = false := textEmpty2 hz
    have hah : q ++ ⟨#[47]⟩ = ah := by rw [HAH.out]; unfold aheadT; rw [if_neg (by omega)]
    clear HAH hz
    refine callsIn_of_wp Tryz.func113 rfl trivial ?_ rfl
    simp only [Tryz.ntmps113, List.size_toArray, List.length_cons, List.length_nil, Nat.reduceAdd, Nat.reduceSub, Array.replicate_succ, Array.replicate_zero, List.push_toArray, List.append_toArray, List.nil_append, List.cons_append]
    gi_wp2
    gi_loopw [15] (fun i wr => ∃ k : Nat, k ≤ n ∧ i = .int .i64 k ∧ J (blw F ah k) wr ∧ KpQ Q W wr) (fun i _ => n - (intOf i).toNat)
    case atStart => exact ⟨0, by omega, rfl, h0, KpQ.refl _ _⟩
    case round =>
      obtain ⟨k, hk, rfl, hJs, hkp⟩ := hrel
      have HK : Hid (KpQ Q W wr) := hkp
      by_cases hlt : k < n
      · have hlt' : (k : Int) < (n : Int) := by omega
        obtain ⟨b, off, ha, hc⟩ := (hkp.els HE.out hQa).opened (by omega)
        cases ha
        obtain ⟨c0, c1, c2⟩ := Els.fiC hc k hlt
        have HF : Hid (HasPre (F k).p ah → blw F ah (k + 1) = blw F ah k ++ [((F k).p.extract ah.size (F k).p.size, F k)]) := fun p => blw_yes p
        have HG : Hid (¬ HasPre (F k).p ah → blw F ah (k + 1) = blw F ah k) := fun p => blw_no p
        have HPr : Hid (blw F ah (k + 1) <+: blw F ah n) := by have := blw_pre F ah (k + 1) (n - (k + 1)); rwa [show k + 1 + (n - (k + 1)) = n by omega] at this
        generalize hy0 : F k = y at *
        clear hy0
        obtain ⟨yp, yd, yt⟩ := y
        dsimp only at *
        clear hc
        obtain ⟨v, hv⟩ : ∃ v, v = wr.alloc (.cells #[.string yp, .bool yd, .string yt] 51) := ⟨_, rfl⟩
        have hJv : J (blw F ah k) v := by rw [hv]; exact hJ _ wr _ none hJs (World.grownBy_alloc _ _ _) (fun r e => by cases e)
        have XB : Box3 v wr.heap.size 51 (.string yp) (.bool yd) (.string yt) := by rw [hv]; exact Box3.made _ _ _ _ _
        have KV : Hid (KpQ Q W v) := HK.out.tr (by rw [hv]; exact ⟨by simp, fun g hg => Below.heap_alloc _ _ _ (by have := hQw g hg; have := HK.out.size; have := hW.size; omega)⟩)
        have HV : Hid (wr.alloc (.cells #[.string yp, .bool yd, .string yt] 51) = v) := hv.symm
        have t0 := XB.c0
        have t1 := XB.c1
        have t2 := XB.c2
        clear hv hJs XB
        gi_wp2_with fail
        rw [HV.out]
        refine ⟨trivial, fun h => by (cases h), (HC.out _ _ _).mono ?_⟩
        rintro e w' ⟨hcp, rfl⟩
        clear HV c0 c1 c2
        rcases hcp with ⟨hpre, rfl⟩ | ⟨hpre, rfl⟩
        · have hb1 := HF.out hpre
          have hlen : (blw F ah k).length < (blw F ah n).length := by
            have := HPr.out.length_le
            rw [hb1, List.length_append] at this
            simp at this
            omega
          obtain ⟨fn, tmps, assign, body, hy, hR⟩ := hY (blw F ah k) (yp.extract ah.size yp.size, ⟨yp, yd, yt⟩) w' hJv hlen
          dsimp only [encB] at hy
          have HB1 : Hid (blw F ah (k + 1) = blw F ah k ++ [(yp.extract ah.size yp.size, ⟨yp, yd, yt⟩)]) := hb1
          clear hpre hb1 HF HG
          gi_wp2
          refine ⟨fun h => by (cases h), hR.mono ?_⟩
          rintro e W3 (⟨rfl, hJ3, hk3⟩ | ⟨rfl, hJx3⟩)
          · rw [← HB1.out] at hJ3
            have K3 : Hid (KpQ Q W W3) := KV.out.tr hk3
            clear hk3
            gi_wp2
            go_roundw
            case rel => exact ⟨k + 1, by omega, by go_num, hJ3, K3.out⟩
            case measure => simp [intOf]; omega
          · rw [← HB1.out] at hJx3
            gi_wp2
            refine bodyPost_ret (results_none rfl _ _ _) rfl ?_
            exact ⟨⟨_, rfl⟩, .inr ⟨_, HPr.out, hJx3⟩⟩
        · have hb1 := HG.out hpre
          rw [← hb1] at hJv
          clear hpre hb1 HF HG
          gi_wp2
          refine ⟨fun _ h => (by cases h), ?_⟩
          gi_wp2
          go_roundw
          case rel => exact ⟨k + 1, by omega, by go_num, hJv, KV.out⟩
          case measure => simp [intOf]; omega
      · obtain rfl : k = n := by omega
        have hlt' : ¬ (k : Int) < (k : Int) := by omega
        gi_wp2
        go_end0
        exact ⟨⟨_, rfl⟩, .inl hJs⟩
end Go.Proofs.YtgcdoabcopihlaaGreat
