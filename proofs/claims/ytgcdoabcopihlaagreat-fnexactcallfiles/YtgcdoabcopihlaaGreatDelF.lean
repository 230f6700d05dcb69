/-
  slices.DeleteFunc of files by a path (written by tools/mkdelf.py).
-/
import Derived.Test.YtgcdoabcopihlaaGreatFileFt
import Derived.Test.YtgcdoabcopihlaaGreatRowFi
import Derived.Test.YtgcdoabcopihlaaGreatInsJ
namespace Go.Proofs.YtgcdoabcopihlaaGreat
open Go.ChangeShapes Go.WideShapes Go.ChangeAt Go.RowKit
set_option linter.unusedVariables false
/-- Fewer of a row of one's own. -/
theorem EO.cut {w : World} {B : Nat} {t : TypeId} {s g n c : Nat} {F : Nat → Nat → Value} (h : EO w B t s (.slice (some ⟨g, 0, none⟩) n c) n F) {m : Nat} (hm : m ≤ n) : EO w B t s (.slice (some ⟨g, 0, none⟩) m c) m F := by
  have hx : elv s m F = (elv s n F).take (m * s) := by
    obtain ⟨k, rfl⟩ : ∃ k, n = m + k := ⟨n - m, by omega⟩
    rw [elv_cat s m F (fun i => F (m + i)) F (fun _ _ => rfl) (fun _ => rfl) k, List.take_left' (elv_length _ _ _)]
  unfold EO at h ⊢
  obtain ⟨hl, ⟨h1, _⟩ | ⟨g', cap, cur, hv, hB, hh, hn, hmx, hcs, htk⟩⟩ := h
  · cases h1
  · cases hv
    refine ⟨by rw [elv_length], .inr ⟨g, c, cur, rfl, hB, hh, by omega, hmx, hcs, ?_⟩⟩
    rw [hx, ← htk, List.take_take, Nat.min_eq_left (Nat.mul_le_mul_right s hm)]
/-- Files without the one at place j, so far as r. -/
def delU (F : Nat → Fi) (j r t : Nat) : Fi := if t < j then F t else if t + 1 < r then F (t + 1) else F t
theorem delU_start (F : Nat → Fi) (j t : Nat) : delU F j (j + 1) t = F t := by
  unfold delU
  split
  · rfl
  · rw [if_neg (by omega)]
theorem delU_step (F : Nat → Fi) (j r : Nat) (h : j < r) (t : Nat) : updE (delU F j r) (r - 1) (F r) t = delU F j (r + 1) t := by
  unfold updE delU
  by_cases e : t = r - 1
  · subst e
    rw [if_pos rfl, if_neg (by omega), if_pos (by omega), show r - 1 + 1 = r by omega]
  · rw [if_neg e]
    by_cases g : t < j
    · rw [if_pos g, if_pos g]
    · rw [if_neg g, if_neg g]
      by_cases g2 : t + 1 < r
      · rw [if_pos g2, if_pos (by omega)]
      · rw [if_neg g2, if_neg (by omega)]
theorem delU_at (F : Nat → Fi) (j r : Nat) (h : j < r) : delU F j r r = F r := by
  unfold delU
  rw [if_neg (by omega), if_neg (by omega)]
/-- A file is set in a row of one's own. -/
theorem EO.setFi {w : World} {B g n c : Nat} {G : Nat → Fi} (h : EO w B 51 3 (.slice (some ⟨g, 0, none⟩) n c) n (fiF G)) {k : Nat} (hk : k < n) (x : Fi) :
    EO (((w.setCell ⟨g, k * 3, none⟩ (.string x.p)).setCell ⟨g, k * 3 + 1, none⟩ (.bool x.d)).setCell ⟨g, k * 3 + 2, none⟩ (.string x.t)) B 51 3 (.slice (some ⟨g, 0, none⟩) n c) n (fiF (updE G k x)) := by
  have h1 := ((h.set (k := k) (l := 0) hk (by omega) (.string x.p)).set (k := k) (l := 1) hk (by omega) (.bool x.d)).set (k := k) (l := 2) hk (by omega) (.string x.t)
  rw [Nat.add_zero] at h1
  refine h1.congr (fun i hi j hj => ?_)
  unfold setF fiF updE
  by_cases e : i = k
  · subst e
    rcases (show j = 0 ∨ j = 1 ∨ j = 2 by omega) with rfl | rfl | rfl <;> simp [fiV]
  · simp [e]
theorem clearF1 (w : World) (g k c : Nat) (n : Nat) (G : Nat → Nat → Value) (B cc : Nat) (h : EO w B 51 3 (.slice (some ⟨g, 0, none⟩) n cc) n G) (hk : k < n) (ty : TypeId) :
    (Builtin.clear_ #[23] ty #[.slice (some ⟨g, k * 3, none⟩) 1 c]).run Tryz.prog w = .ok (.tuple #[]) (((w.setCell ⟨g, k * 3, none⟩ (.string ⟨#[]⟩)).setCell ⟨g, k * 3 + 1, none⟩ (.bool false)).setCell ⟨g, k * 3 + 2, none⟩ (.string ⟨#[]⟩)) := by
  obtain ⟨i, hi, hz, hsz, hby⟩ := info_parts Tryz.infoFi
  obtain ⟨gg, hr, _⟩ := h.rowE
  have ha := hr.a (by omega)
  cases ha
  have hst := run_storeCells_cells (P := Tryz.prog) g (k * 3) [.string ⟨#[]⟩, .bool false, .string ⟨#[]⟩] 0 w (fun j hj => by
    have := hr.c k hk j (by simpa using hj)
    rw [Nat.add_zero, this]; rfl) (fun j hj => by rw [Nat.add_zero]; exact hr.z _ (by have := ltE hk (show j < 3 by simpa using hj); omega)) (by
      intro v hv
      simp only [List.mem_cons, List.not_mem_nil, or_false] at hv
      rcases hv with rfl | rfl | rfl <;> rfl)
  have hzc : (Builtin.zeroCells (Value.agg #[.string ⟨#[]⟩, .bool false, .string ⟨#[]⟩]).cells 1).toList = [.string ⟨#[]⟩, .bool false, .string ⟨#[]⟩] := by kernel_rfl
  have hv : ∀ w, (zeroValue 51).run Tryz.prog w = .ok (.agg #[.string ⟨#[]⟩, .bool false, .string ⟨#[]⟩]) w := fun w => by
    simp [zeroValue, typeInfo, hi, hz]
  simp only [Nat.add_zero] at hst
  simp [Builtin.clear_, run_underlying Tryz.underlying23, hv, hzc, hst]
  rfl

theorem fiF_congr0 {n : Nat} {F G : Nat → Fi} (h : ∀ i, i < n → F i = G i) : ∀ i, i < n → ∀ j, j < 3 → fiF F i j = fiF G i j := fun i hi j _ => by unfold fiF; rw [h i hi]
theorem elsAt0 {w : World} {g n : Nat} {F : Nat → Nat → Value} (h : Els w 3 (some ⟨g, 0, none⟩) n F) : ∀ i, i < n → ∀ j, j < 3 → w.cell? ⟨g, 0 + i * 3 + j, none⟩ = some (F i j) := fun i hi j hj => by
  obtain ⟨b', off', e, hc⟩ := h i hi
  cases e
  exact hc j hj
set_option maxRecDepth 100000 in
theorem delRemoveFile (x : Fi) (q : ByteArray) (Bp : Nat) (w : World) (hp : w.cell? ⟨Bp, 0, none⟩ = some (.string q)) :
    Calls Tryz.prog 90 #[.agg #[.string x.p, .bool x.d, .string x.t], .pointer (some ⟨Bp, 0, none⟩)] w fun e w' => Says e (x.p = q) ∧ Below w.heap.size w w' := by
  have HB : Hid (Below w.heap.size w (w.alloc (.cells #[.string x.p, .bool x.d, .string x.t] 51))) := (Below.refl _ _).alloc (Nat.le_refl _) _
  have hp2 : (w.alloc (.cells #[.string x.p, .bool x.d, .string x.t] 51)).cell? ⟨Bp, 0, none⟩ = some (.string q) := (HB.out.cell (p := ⟨Bp, 0, none⟩) (strBlock hp)).trans hp
  by_cases he : x.p = q
  · have g : (x.p.toList == q.toList) = true := by rw [he]; simp
    have HE : Hid (x.p = q) := he
    clear he
    go_enter Tryz.func90, Tryz.ntmps90
    go_wp2
    go_ret
    exact ⟨⟨true, rfl, by simpa using HE.out⟩, HB.out⟩
  · have g : (x.p.toList == q.toList) = false := textNe he
    have HE : Hid (¬ x.p = q) := he
    clear he
    go_enter Tryz.func90, Tryz.ntmps90
    go_wp2
    go_ret
    exact ⟨⟨false, rfl, by simpa using HE.out⟩, HB.out⟩
set_option maxRecDepth 100000 in
set_option maxHeartbeats 1000000 in
theorem idxRemoveFile (a : Option Addr) (n c : Nat) (F : Nat → Fi) (q : ByteArray) (Bp j : Nat) (hn : n ≤ 1048576) (hj : j < n) (ej : (F j).p = q) (hf : ∀ i, i < j → (F i).p ≠ q) (w : World) (hp : w.cell? ⟨Bp, 0, none⟩ = some (.string q)) (h : Els w 3 a n (fiF F)) :
    Calls Tryz.prog 109 #[.slice a n c, .func (.func 90) #[] #[.pointer (some ⟨Bp, 0, none⟩)]] w fun e w' => e = .returned (.int .i64 (j : Int)) ∧ Below w.heap.size w w' := by
  have H : Hid (Els w 3 a n (fiF F)) := h
  have HP : Hid (w.cell? ⟨Bp, 0, none⟩ = some (.string q)) := hp
  have HJ : Hid ((F j).p = q) := ej
  have HF : Hid (∀ i, i < j → (F i).p ≠ q) := hf
  clear h hp ej hf
  go_enter Tryz.func109, Tryz.ntmps109
  go_wp2
  go_loopw [8] (fun i wr => ∃ k : Nat, k ≤ j ∧ i = .int .i64 k ∧ Below w.heap.size w wr) (fun i _ => n - (intOf i).toNat)
  case atStart => exact ⟨0, by omega, rfl, Below.refl _ _⟩
  case round =>
    obtain ⟨k, hk, rfl, hb⟩ := hrel
    have HB : Hid (Below w.heap.size w wr) := hb
    have hlt' : (k : Int) < (n : Int) := by omega
    obtain ⟨b, off, rfl, hc⟩ := (H.out.below hb).opened (by omega)
    obtain ⟨c0, c1, c2⟩ := Els.fiC hc k (by omega)
    have DL : Hid (Calls Tryz.prog 90 #[.agg #[.string (F k).p, .bool (F k).d, .string (F k).t], .pointer (some ⟨Bp, 0, none⟩)] wr fun e w' => Says e ((F k).p = q) ∧ Below wr.heap.size wr w') := delRemoveFile (F k) q Bp wr ((hb.cell (p := ⟨Bp, 0, none⟩) (strBlock HP.out)).trans HP.out)
    clear hc hb
    go_wp2_with fail
    refine (Calls.mono DL.out) ?_
    rintro e w1 ⟨⟨z, rfl, hz⟩, hb⟩
    have B1 : Hid (Below w.heap.size w w1) := HB.out.trans (hb.mono HB.out.size)
    have HZ : Hid (z = true ↔ (F k).p = q) := hz
    clear hz hb DL c0 c1 c2
    cases z with
    | true =>
      have hkj : k = j := by
        rcases Nat.lt_or_ge k j with g | g
        · exact absurd (HZ.out.1 rfl) (HF.out k g)
        · omega
      subst hkj
      clear HZ
      go_wp2
      go_ret
      exact ⟨rfl, B1.out⟩
    | false =>
      have hkj : k < j := by
        rcases Nat.lt_or_ge k j with g | g
        · exact g
        · obtain rfl : k = j := by omega
          have := HZ.out.2 HJ.out; cases this
      clear HZ
      go_wp2
      go_roundw
      case rel => exact ⟨k + 1, by omega, by go_num, B1.out⟩
      case measure => simp [intOf]; omega
set_option maxRecDepth 100000 in
set_option maxHeartbeats 4000000 in
/-- DeleteFunc of the one file at a path. -/
theorem deleRemoveFile (B g n c : Nat) (F : Nat → Fi) (q : ByteArray) (Bp j : Nat) (hs : Srt n F) (hn : n ≤ 100000) (hj : j < n) (ej : (F j).p = q) (w : World) (hBp : Bp < B) (hBw : B ≤ w.heap.size) (hp : w.cell? ⟨Bp, 0, none⟩ = some (.string q)) (h : EO w B 51 3 (.slice (some ⟨g, 0, none⟩) n c) n (fiF F)) :
    Calls Tryz.prog 84 #[.slice (some ⟨g, 0, none⟩) n c, .func (.func 90) #[] #[.pointer (some ⟨Bp, 0, none⟩)]] w fun e w' => (e = .returned (.slice (some ⟨g, 0, none⟩) (n - 1) c) ∧ EO w' B 51 3 (.slice (some ⟨g, 0, none⟩) (n - 1) c) (n - 1) (fiF (delU F j n))) ∧ OnlyB g w w' := by
  have IX : Hid (Calls Tryz.prog 109 #[.slice (some ⟨g, 0, none⟩) n c, .func (.func 90) #[] #[.pointer (some ⟨Bp, 0, none⟩)]] w fun e w' => e = .returned (.int .i64 (j : Int)) ∧ Below w.heap.size w w') := idxRemoveFile (some ⟨g, 0, none⟩) n c F q Bp j (by omega) hj ej (fun i hi e => by have := hs.uniq (by omega) hj (e.trans ej.symm); omega) w hp h.els
  have NE : Hid (∀ i, j < i → i < n → (F i).p ≠ q) := fun i hi hin e => by have := hs.uniq hin hj (e.trans ej.symm); omega
  have E0 : Hid (EO w B 51 3 (.slice (some ⟨g, 0, none⟩) n c) n (fiF F)) := h
  have HP : Hid (w.cell? ⟨Bp, 0, none⟩ = some (.string q)) := hp
  have SL : Hid (SlP (some ⟨g, 0, none⟩) n c) := h.slp
  have GB : Hid (B ≤ g ∧ g < w.heap.size) := h.ge g rfl
  have hnc := h.slp.le
  have hg1 : ((j : Int) == -1) = false := by simp
  clear h hp hs ej
  go_enter Tryz.func84, Tryz.ntmps84
  go_wp2_with fail
  refine (Calls.mono IX.out) ?_
  rintro e w1 ⟨rfl, hb⟩
  have B1 : Hid (OnlyB g w w1) := (OnlyB.refl g w).below hb
  have E1 : Hid (EO w1 B 51 3 (.slice (some ⟨g, 0, none⟩) n c) n (fiF F)) := E0.out.below hb
  clear hb IX E0
  go_wp2
  go_loopw [5, 6] (fun i r wr => ∃ k : Nat, j < k ∧ k ≤ n ∧ i = .int .i64 ((k : Int) - 1) ∧ r = .int .i64 k ∧ EO wr B 51 3 (.slice (some ⟨g, 0, none⟩) n c) n (fiF (delU F j k)) ∧ OnlyB g w wr) (fun _ r _ => n - (intOf r).toNat)
  case atStart => exact ⟨j + 1, by omega, by omega, by go_num, by go_num, E1.out.congr (fiF_congr0 (fun i _ => (delU_start F j i).symm)), B1.out⟩
  case round =>
    obtain ⟨k, hjk, hk, rfl, rfl, hE, hb⟩ := hrel
    have HE : Hid (EO wr B 51 3 (.slice (some ⟨g, 0, none⟩) n c) n (fiF (delU F j k))) := hE
    have HB : Hid (OnlyB g w wr) := hb
    clear hE hb E1 B1
    by_cases hlt : k < n
    · have hlt' : (k : Int) < (n : Int) := by omega
      obtain ⟨c0, c1, c2⟩ := Els.fiC (elsAt0 HE.out.els) k hlt
      rw [delU_at F j k hjk, Nat.zero_add] at c0 c1 c2
      obtain ⟨v, hv⟩ : ∃ v, v = wr.alloc (.cells #[.string (F k).p, .bool (F k).d, .string (F k).t] 51) := ⟨_, rfl⟩
      have AB : Below wr.heap.size wr v := by rw [hv]; exact (Below.refl _ _).alloc (Nat.le_refl _) _
      have XB : Hid (Box3 v wr.heap.size 51 (.string (F k).p) (.bool (F k).d) (.string (F k).t)) := by show Box3 _ _ _ _ _ _; rw [hv]; exact Box3.made _ _ _ _ _
      have HV : Hid (wr.alloc (.cells #[.string (F k).p, .bool (F k).d, .string (F k).t] 51) = v) := hv.symm
      have BV : Hid (OnlyB g w v) := HB.out.below AB
      have EV : Hid (EO v B 51 3 (.slice (some ⟨g, 0, none⟩) n c) n (fiF (delU F j k))) := HE.out.below AB
      have gw : Hid (g < wr.heap.size) := (HE.out.ge g rfl).2
      have t0 := XB.out.c0
      have t1 := XB.out.c1
      have t2 := XB.out.c2
      have DL : Hid (Calls Tryz.prog 90 #[.agg #[.string (F k).p, .bool (F k).d, .string (F k).t], .pointer (some ⟨Bp, 0, none⟩)] v fun e w' => Says e ((F k).p = q) ∧ Below v.heap.size v w') := delRemoveFile (F k) q Bp v (((BV.out.toBelow GB.out.1 hBw).cell (p := ⟨Bp, 0, none⟩) hBp).trans HP.out)
      have NK : Hid ((F k).p ≠ q) := NE.out k hjk hlt
      clear hv AB HE HB
      go_wp2_with fail
      rw [HV.out]
      refine (Calls.mono DL.out) ?_
      rintro e w2 ⟨⟨z, rfl, hz⟩, hb⟩
      obtain rfl : z = false := by
        cases z with
        | false => rfl
        | true => exact absurd (hz.1 rfl) NK.out
      have B2 : Hid (OnlyB g w w2) := BV.out.below hb
      have E2 : Hid (EO w2 B 51 3 (.slice (some ⟨g, 0, none⟩) n c) n (fiF (delU F j k))) := EV.out.below hb
      have X2 : Hid (Box3 w2 wr.heap.size 51 (.string (F k).p) (.bool (F k).d) (.string (F k).t)) := XB.out.below hb
      clear hz hb DL c0 c1 c2 t0 t1 t2 HV XB EV BV
      have e1 : (k : Int) - 1 = ((k - 1 : Nat) : Int) := by omega
      rw [e1]
      have hk1 : ((k - 1 : Nat) : Int) < (n : Int) := by omega
      have s0 := X2.out.c0
      have s1 := X2.out.c1
      have s2 := X2.out.c2
      obtain ⟨GG, r0, _⟩ := E2.out.rowE
      cases r0.a (by omega)
      have t0 := r0.c (k - 1) (by omega) 0 (by omega)
      have u0 := r0.z ((k - 1) * 3) (by have := ltE (show k - 1 < n by omega) (show 0 < 3 by omega); omega)
      have t1 := r0.c (k - 1) (by omega) 1 (by omega)
      have u1 := r0.z ((k - 1) * 3 + 1) (by have := ltE (show k - 1 < n by omega) (show 1 < 3 by omega); omega)
      have t2 := r0.c (k - 1) (by omega) 2 (by omega)
      have u2 := r0.z ((k - 1) * 3 + 2) (by have := ltE (show k - 1 < n by omega) (show 2 < 3 by omega); omega)
      rw [Nat.add_zero] at t0
      have E3 : Hid (EO (((w2.setCell ⟨g, (k - 1) * 3, none⟩ (.string (F k).p)).setCell ⟨g, (k - 1) * 3 + 1, none⟩ (.bool (F k).d)).setCell ⟨g, (k - 1) * 3 + 2, none⟩ (.string (F k).t)) B 51 3 (.slice (some ⟨g, 0, none⟩) n c) n (fiF (delU F j (k + 1)))) := (E2.out.setFi (show k - 1 < n by omega) (F k)).congr (fiF_congr0 (fun i _ => delU_step F j k hjk i))
      have B3 : Hid (OnlyB g w (((w2.setCell ⟨g, (k - 1) * 3, none⟩ (.string (F k).p)).setCell ⟨g, (k - 1) * 3 + 1, none⟩ (.bool (F k).d)).setCell ⟨g, (k - 1) * 3 + 2, none⟩ (.string (F k).t))) := ((B2.out.setCell ((k - 1) * 3) _).setCell ((k - 1) * 3 + 1) _).setCell ((k - 1) * 3 + 2) _
      clear r0 E2 B2 X2
      go_wp2
      go_roundw
      case rel => exact ⟨k + 1, by omega, by omega, by go_num, by go_num, E3.out, B3.out⟩
      case measure => simp [intOf]; omega
    · obtain rfl : k = n := by omega
      have hlt' : ¬ (k : Int) < (k : Int) := by omega
      have e1 : (k : Int) - 1 = ((k - 1 : Nat) : Int) := by omega
      rw [e1]
      have CL := fun cc ty => clearF1 wr g (k - 1) cc k _ B c HE.out (by omega) ty
      have RF : ∀ w : World, (Instr.slice 23 (.slice (some ⟨g, 0, none⟩) k c) (some (.int .i64 ((k - 1 : Nat) : Int))) none none).run Tryz.prog w = .ok (.slice (some ⟨g, (k - 1) * 3, none⟩) 1 (c - (k - 1))) w := fun w => by
        have := run_cut_from 23 (P := Tryz.prog) rfl 3 (fun w => by kernel_rfl) SL.out (k - 1) (by omega) w
        rw [this]
        unfold cutA
        rw [if_neg (by omega), show k - (k - 1) = 1 by omega]
        simp [Addr.add]
        omega
      have RT : ∀ w : World, (Instr.slice 23 (.slice (some ⟨g, 0, none⟩) k c) none (some (.int .i64 ((k - 1 : Nat) : Int))) none).run Tryz.prog w = .ok (.slice (some ⟨g, 0, none⟩) (k - 1) c) w := fun w => run_cut_to 23 rfl 3 (fun w => by kernel_rfl) SL.out (k - 1) (by omega) w
      have E3 : Hid (EO (((wr.setCell ⟨g, (k - 1) * 3, none⟩ (.string ⟨#[]⟩)).setCell ⟨g, (k - 1) * 3 + 1, none⟩ (.bool false)).setCell ⟨g, (k - 1) * 3 + 2, none⟩ (.string ⟨#[]⟩)) B 51 3 (.slice (some ⟨g, 0, none⟩) (k - 1) c) (k - 1) (fiF (delU F j k))) := ((HE.out.setFi (show k - 1 < k by omega) fiZ).cut (show k - 1 ≤ k by omega)).congr (fiF_congr0 (fun i hi => updE_ne _ _ (by omega)))
      have B3 : Hid (OnlyB g w (((wr.setCell ⟨g, (k - 1) * 3, none⟩ (.string ⟨#[]⟩)).setCell ⟨g, (k - 1) * 3 + 1, none⟩ (.bool false)).setCell ⟨g, (k - 1) * 3 + 2, none⟩ (.string ⟨#[]⟩))) := ((HB.out.setCell ((k - 1) * 3) _).setCell ((k - 1) * 3 + 1) _).setCell ((k - 1) * 3 + 2) _
      clear HE HB
      go_wp2
      go_ret
      exact ⟨⟨rfl, E3.out⟩, B3.out⟩
set_option maxRecDepth 100000 in
theorem delMoveFile (x : Fi) (q : ByteArray) (Bp : Nat) (w : World) (hp : w.cell? ⟨Bp, 0, none⟩ = some (.string q)) :
    Calls Tryz.prog 85 #[.agg #[.string x.p, .bool x.d, .string x.t], .pointer (some ⟨Bp, 0, none⟩)] w fun e w' => Says e (x.p = q) ∧ Below w.heap.size w w' := by
  have HB : Hid (Below w.heap.size w (w.alloc (.cells #[.string x.p, .bool x.d, .string x.t] 51))) := (Below.refl _ _).alloc (Nat.le_refl _) _
  have hp2 : (w.alloc (.cells #[.string x.p, .bool x.d, .string x.t] 51)).cell? ⟨Bp, 0, none⟩ = some (.string q) := (HB.out.cell (p := ⟨Bp, 0, none⟩) (strBlock hp)).trans hp
  by_cases he : x.p = q
  · have g : (x.p.toList == q.toList) = true := by rw [he]; simp
    have HE : Hid (x.p = q) := he
    clear he
    go_enter Tryz.func85, Tryz.ntmps85
    go_wp2
    go_ret
    exact ⟨⟨true, rfl, by simpa using HE.out⟩, HB.out⟩
  · have g : (x.p.toList == q.toList) = false := textNe he
    have HE : Hid (¬ x.p = q) := he
    clear he
    go_enter Tryz.func85, Tryz.ntmps85
    go_wp2
    go_ret
    exact ⟨⟨false, rfl, by simpa using HE.out⟩, HB.out⟩
set_option maxRecDepth 100000 in
set_option maxHeartbeats 1000000 in
theorem idxMoveFile (a : Option Addr) (n c : Nat) (F : Nat → Fi) (q : ByteArray) (Bp j : Nat) (hn : n ≤ 1048576) (hj : j < n) (ej : (F j).p = q) (hf : ∀ i, i < j → (F i).p ≠ q) (w : World) (hp : w.cell? ⟨Bp, 0, none⟩ = some (.string q)) (h : Els w 3 a n (fiF F)) :
    Calls Tryz.prog 109 #[.slice a n c, .func (.func 85) #[] #[.pointer (some ⟨Bp, 0, none⟩)]] w fun e w' => e = .returned (.int .i64 (j : Int)) ∧ Below w.heap.size w w' := by
  have H : Hid (Els w 3 a n (fiF F)) := h
  have HP : Hid (w.cell? ⟨Bp, 0, none⟩ = some (.string q)) := hp
  have HJ : Hid ((F j).p = q) := ej
  have HF : Hid (∀ i, i < j → (F i).p ≠ q) := hf
  clear h hp ej hf
  go_enter Tryz.func109, Tryz.ntmps109
  go_wp2
  go_loopw [8] (fun i wr => ∃ k : Nat, k ≤ j ∧ i = .int .i64 k ∧ Below w.heap.size w wr) (fun i _ => n - (intOf i).toNat)
  case atStart => exact ⟨0, by omega, rfl, Below.refl _ _⟩
  case round =>
    obtain ⟨k, hk, rfl, hb⟩ := hrel
    have HB : Hid (Below w.heap.size w wr) := hb
    have hlt' : (k : Int) < (n : Int) := by omega
    obtain ⟨b, off, rfl, hc⟩ := (H.out.below hb).opened (by omega)
    obtain ⟨c0, c1, c2⟩ := Els.fiC hc k (by omega)
    have DL : Hid (Calls Tryz.prog 85 #[.agg #[.string (F k).p, .bool (F k).d, .string (F k).t], .pointer (some ⟨Bp, 0, none⟩)] wr fun e w' => Says e ((F k).p = q) ∧ Below wr.heap.size wr w') := delMoveFile (F k) q Bp wr ((hb.cell (p := ⟨Bp, 0, none⟩) (strBlock HP.out)).trans HP.out)
    clear hc hb
    go_wp2_with fail
    refine (Calls.mono DL.out) ?_
    rintro e w1 ⟨⟨z, rfl, hz⟩, hb⟩
    have B1 : Hid (Below w.heap.size w w1) := HB.out.trans (hb.mono HB.out.size)
    have HZ : Hid (z = true ↔ (F k).p = q) := hz
    clear hz hb DL c0 c1 c2
    cases z with
    | true =>
      have hkj : k = j := by
        rcases Nat.lt_or_ge k j with g | g
        · exact absurd (HZ.out.1 rfl) (HF.out k g)
        · omega
      subst hkj
      clear HZ
      go_wp2
      go_ret
      exact ⟨rfl, B1.out⟩
    | false =>
      have hkj : k < j := by
        rcases Nat.lt_or_ge k j with g | g
        · exact g
        · obtain rfl : k = j := by omega
          have := HZ.out.2 HJ.out; cases this
      clear HZ
      go_wp2
      go_roundw
      case rel => exact ⟨k + 1, by omega, by go_num, B1.out⟩
      case measure => simp [intOf]; omega
set_option maxRecDepth 100000 in
set_option maxHeartbeats 4000000 in
/-- DeleteFunc of the one file at a path. -/
theorem deleMoveFile (B g n c : Nat) (F : Nat → Fi) (q : ByteArray) (Bp j : Nat) (hs : Srt n F) (hn : n ≤ 100000) (hj : j < n) (ej : (F j).p = q) (w : World) (hBp : Bp < B) (hBw : B ≤ w.heap.size) (hp : w.cell? ⟨Bp, 0, none⟩ = some (.string q)) (h : EO w B 51 3 (.slice (some ⟨g, 0, none⟩) n c) n (fiF F)) :
    Calls Tryz.prog 84 #[.slice (some ⟨g, 0, none⟩) n c, .func (.func 85) #[] #[.pointer (some ⟨Bp, 0, none⟩)]] w fun e w' => (e = .returned (.slice (some ⟨g, 0, none⟩) (n - 1) c) ∧ EO w' B 51 3 (.slice (some ⟨g, 0, none⟩) (n - 1) c) (n - 1) (fiF (delU F j n))) ∧ OnlyB g w w' := by
  have IX : Hid (Calls Tryz.prog 109 #[.slice (some ⟨g, 0, none⟩) n c, .func (.func 85) #[] #[.pointer (some ⟨Bp, 0, none⟩)]] w fun e w' => e = .returned (.int .i64 (j : Int)) ∧ Below w.heap.size w w') := idxMoveFile (some ⟨g, 0, none⟩) n c F q Bp j (by omega) hj ej (fun i hi e => by have := hs.uniq (by omega) hj (e.trans ej.symm); omega) w hp h.els
  have NE : Hid (∀ i, j < i → i < n → (F i).p ≠ q) := fun i hi hin e => by have := hs.uniq hin hj (e.trans ej.symm); omega
  have E0 : Hid (EO w B 51 3 (.slice (some ⟨g, 0, none⟩) n c) n (fiF F)) := h
  have HP : Hid (w.cell? ⟨Bp, 0, none⟩ = some (.string q)) := hp
  have SL : Hid (SlP (some ⟨g, 0, none⟩) n c) := h.slp
  have GB : Hid (B ≤ g ∧ g < w.heap.size) := h.ge g rfl
  have hnc := h.slp.le
  have hg1 : ((j : Int) == -1) = false := by simp
  clear h hp hs ej
  go_enter Tryz.func84, Tryz.ntmps84
  go_wp2_with fail
  refine (Calls.mono IX.out) ?_
  rintro e w1 ⟨rfl, hb⟩
  have B1 : Hid (OnlyB g w w1) := (OnlyB.refl g w).below hb
  have E1 : Hid (EO w1 B 51 3 (.slice (some ⟨g, 0, none⟩) n c) n (fiF F)) := E0.out.below hb
  clear hb IX E0
  go_wp2
  go_loopw [5, 6] (fun i r wr => ∃ k : Nat, j < k ∧ k ≤ n ∧ i = .int .i64 ((k : Int) - 1) ∧ r = .int .i64 k ∧ EO wr B 51 3 (.slice (some ⟨g, 0, none⟩) n c) n (fiF (delU F j k)) ∧ OnlyB g w wr) (fun _ r _ => n - (intOf r).toNat)
  case atStart => exact ⟨j + 1, by omega, by omega, by go_num, by go_num, E1.out.congr (fiF_congr0 (fun i _ => (delU_start F j i).symm)), B1.out⟩
  case round =>
    obtain ⟨k, hjk, hk, rfl, rfl, hE, hb⟩ := hrel
    have HE : Hid (EO wr B 51 3 (.slice (some ⟨g, 0, none⟩) n c) n (fiF (delU F j k))) := hE
    have HB : Hid (OnlyB g w wr) := hb
    clear hE hb E1 B1
    by_cases hlt : k < n
    · have hlt' : (k : Int) < (n : Int) := by omega
      obtain ⟨c0, c1, c2⟩ := Els.fiC (elsAt0 HE.out.els) k hlt
      rw [delU_at F j k hjk, Nat.zero_add] at c0 c1 c2
      obtain ⟨v, hv⟩ : ∃ v, v = wr.alloc (.cells #[.string (F k).p, .bool (F k).d, .string (F k).t] 51) := ⟨_, rfl⟩
      have AB : Below wr.heap.size wr v := by rw [hv]; exact (Below.refl _ _).alloc (Nat.le_refl _) _
      have XB : Hid (Box3 v wr.heap.size 51 (.string (F k).p) (.bool (F k).d) (.string (F k).t)) := by show Box3 _ _ _ _ _ _; rw [hv]; exact Box3.made _ _ _ _ _
      have HV : Hid (wr.alloc (.cells #[.string (F k).p, .bool (F k).d, .string (F k).t] 51) = v) := hv.symm
      have BV : Hid (OnlyB g w v) := HB.out.below AB
      have EV : Hid (EO v B 51 3 (.slice (some ⟨g, 0, none⟩) n c) n (fiF (delU F j k))) := HE.out.below AB
      have gw : Hid (g < wr.heap.size) := (HE.out.ge g rfl).2
      have t0 := XB.out.c0
      have t1 := XB.out.c1
      have t2 := XB.out.c2
      have DL : Hid (Calls Tryz.prog 85 #[.agg #[.string (F k).p, .bool (F k).d, .string (F k).t], .pointer (some ⟨Bp, 0, none⟩)] v fun e w' => Says e ((F k).p = q) ∧ Below v.heap.size v w') := delMoveFile (F k) q Bp v (((BV.out.toBelow GB.out.1 hBw).cell (p := ⟨Bp, 0, none⟩) hBp).trans HP.out)
      have NK : Hid ((F k).p ≠ q) := NE.out k hjk hlt
      clear hv AB HE HB
      go_wp2_with fail
      rw [HV.out]
      refine (Calls.mono DL.out) ?_
      rintro e w2 ⟨⟨z, rfl, hz⟩, hb⟩
      obtain rfl : z = false := by
        cases z with
        | false => rfl
        | true => exact absurd (hz.1 rfl) NK.out
      have B2 : Hid (OnlyB g w w2) := BV.out.below hb
      have E2 : Hid (EO w2 B 51 3 (.slice (some ⟨g, 0, none⟩) n c) n (fiF (delU F j k))) := EV.out.below hb
      have X2 : Hid (Box3 w2 wr.heap.size 51 (.string (F k).p) (.bool (F k).d) (.string (F k).t)) := XB.out.below hb
      clear hz hb DL c0 c1 c2 t0 t1 t2 HV XB EV BV
      have e1 : (k : Int) - 1 = ((k - 1 : Nat) : Int) := by omega
      rw [e1]
      have hk1 : ((k - 1 : Nat) : Int) < (n : Int) := by omega
      have s0 := X2.out.c0
      have s1 := X2.out.c1
      have s2 := X2.out.c2
      obtain ⟨GG, r0, _⟩ := E2.out.rowE
      cases r0.a (by omega)
      have t0 := r0.c (k - 1) (by omega) 0 (by omega)
      have u0 := r0.z ((k - 1) * 3) (by have := ltE (show k - 1 < n by omega) (show 0 < 3 by omega); omega)
      have t1 := r0.c (k - 1) (by omega) 1 (by omega)
      have u1 := r0.z ((k - 1) * 3 + 1) (by have := ltE (show k - 1 < n by omega) (show 1 < 3 by omega); omega)
      have t2 := r0.c (k - 1) (by omega) 2 (by omega)
      have u2 := r0.z ((k - 1) * 3 + 2) (by have := ltE (show k - 1 < n by omega) (show 2 < 3 by omega); omega)
      rw [Nat.add_zero] at t0
      have E3 : Hid (EO (((w2.setCell ⟨g, (k - 1) * 3, none⟩ (.string (F k).p)).setCell ⟨g, (k - 1) * 3 + 1, none⟩ (.bool (F k).d)).setCell ⟨g, (k - 1) * 3 + 2, none⟩ (.string (F k).t)) B 51 3 (.slice (some ⟨g, 0, none⟩) n c) n (fiF (delU F j (k + 1)))) := (E2.out.setFi (show k - 1 < n by omega) (F k)).congr (fiF_congr0 (fun i _ => delU_step F j k hjk i))
      have B3 : Hid (OnlyB g w (((w2.setCell ⟨g, (k - 1) * 3, none⟩ (.string (F k).p)).setCell ⟨g, (k - 1) * 3 + 1, none⟩ (.bool (F k).d)).setCell ⟨g, (k - 1) * 3 + 2, none⟩ (.string (F k).t))) := ((B2.out.setCell ((k - 1) * 3) _).setCell ((k - 1) * 3 + 1) _).setCell ((k - 1) * 3 + 2) _
      clear r0 E2 B2 X2
      go_wp2
      go_roundw
      case rel => exact ⟨k + 1, by omega, by omega, by go_num, by go_num, E3.out, B3.out⟩
      case measure => simp [intOf]; omega
    · obtain rfl : k = n := by omega
      have hlt' : ¬ (k : Int) < (k : Int) := by omega
      have e1 : (k : Int) - 1 = ((k - 1 : Nat) : Int) := by omega
      rw [e1]
      have CL := fun cc ty => clearF1 wr g (k - 1) cc k _ B c HE.out (by omega) ty
      have RF : ∀ w : World, (Instr.slice 23 (.slice (some ⟨g, 0, none⟩) k c) (some (.int .i64 ((k - 1 : Nat) : Int))) none none).run Tryz.prog w = .ok (.slice (some ⟨g, (k - 1) * 3, none⟩) 1 (c - (k - 1))) w := fun w => by
        have := run_cut_from 23 (P := Tryz.prog) rfl 3 (fun w => by kernel_rfl) SL.out (k - 1) (by omega) w
        rw [this]
        unfold cutA
        rw [if_neg (by omega), show k - (k - 1) = 1 by omega]
        simp [Addr.add]
        omega
      have RT : ∀ w : World, (Instr.slice 23 (.slice (some ⟨g, 0, none⟩) k c) none (some (.int .i64 ((k - 1 : Nat) : Int))) none).run Tryz.prog w = .ok (.slice (some ⟨g, 0, none⟩) (k - 1) c) w := fun w => run_cut_to 23 rfl 3 (fun w => by kernel_rfl) SL.out (k - 1) (by omega) w
      have E3 : Hid (EO (((wr.setCell ⟨g, (k - 1) * 3, none⟩ (.string ⟨#[]⟩)).setCell ⟨g, (k - 1) * 3 + 1, none⟩ (.bool false)).setCell ⟨g, (k - 1) * 3 + 2, none⟩ (.string ⟨#[]⟩)) B 51 3 (.slice (some ⟨g, 0, none⟩) (k - 1) c) (k - 1) (fiF (delU F j k))) := ((HE.out.setFi (show k - 1 < k by omega) fiZ).cut (show k - 1 ≤ k by omega)).congr (fiF_congr0 (fun i hi => updE_ne _ _ (by omega)))
      have B3 : Hid (OnlyB g w (((wr.setCell ⟨g, (k - 1) * 3, none⟩ (.string ⟨#[]⟩)).setCell ⟨g, (k - 1) * 3 + 1, none⟩ (.bool false)).setCell ⟨g, (k - 1) * 3 + 2, none⟩ (.string ⟨#[]⟩))) := ((HB.out.setCell ((k - 1) * 3) _).setCell ((k - 1) * 3 + 1) _).setCell ((k - 1) * 3 + 2) _
      clear HE HB
      go_wp2
      go_ret
      exact ⟨⟨rfl, E3.out⟩, B3.out⟩
end Go.Proofs.YtgcdoabcopihlaaGreat
