/-
  Contracts of slices.Repeat and slices.Concat at slices of bytes.
-/
import Derived.Test.YtbhlgcenfanicaaSlices
import Derived.Deep.Cut
import Derived.Deep.CutRange
import Derived.Deep.DeepCutAuto
import Derived.Deep.RegionHeld3
namespace Go.Proofs.Ytbhlgcenfanicaa
open Go.ChangeShapes Go.WideShapes Go.ChangeAt Go.RowKit
set_option maxRecDepth 100000 in
set_option maxHeartbeats 1000000 in
/-- slices.Repeat of one byte. -/
theorem repeat_any (b k x : Nat) (hk : 1 ≤ k) (hk' : k ≤ 16) (w : World) (h : w.cell? ⟨b, 0, none⟩ = some (.int .u8 (x : Nat))) :
    Calls Try.prog 58 #[.slice (some ⟨b, 0, none⟩) 1 1, .int .i64 (k : Int)] w fun e w' => RetB w w' e k (fun _ => x) ∧ Below w.heap.size w w' := by
  have M : Hid (∀ w : World, Calls Try.prog 82 #[.int .u64 1, .int .u64 (k : Int)] w fun e w' => e = .returned (.tuple #[.int .u64 0, .int .u64 (k : Int)]) ∧ w = w') := mul_one k hk hk'
  have m1 := mkBytes k (by omega)
  have SZ : Hid ((Try.prog.info? 5).map (·.size) = some 1) := size8
  have hbl := strBlock h
  have R0 : Hid ((w.alloc (.cells (madeCells #[.int .u8 0] k) 5)).rowIs w.heap.size 5 k (fun _ => .int .u8 0)) := World.rowIs_made w (.int .u8 0) k 5
  have B0 : Hid (Below w.heap.size w (w.alloc (.cells (madeCells #[.int .u8 0] k) 5))) := (Below.refl _ _).alloc (Nat.le_refl _) _
  have c0 : Hid ((w.alloc (.cells (madeCells #[.int .u8 0] k) 5)).cell? ⟨b, 0, none⟩ = some (.int .u8 (x : Nat))) := by
    have := B0.out.cell (p := ⟨b, 0, none⟩) hbl
    exact this.trans h
  have x1 : ¬ (k : Int) < 0 := by omega
  clear h
  go_enter Try.func58, Try.ntmps58
  go_upto_region 7 with (go_at_call 82; refine (M.out _).mono ?_; rintro e w' ⟨rfl, rfl⟩)
  generalize w.alloc (.cells (madeCells #[.int .u8 0] k) 5) = wz at *
  have CP : ∀ ty, (Builtin.copy_ #[22, 22] ty #[.slice (some ⟨w.heap.size, 0, none⟩) k k, .slice (some ⟨b, 0, none⟩) 1 1]).run Try.prog wz = .ok (goInt 1) (wz.setCell ⟨w.heap.size, 0, none⟩ (.int .u8 (x : Nat))) := fun ty => by
    have := run_copy_cells (P := Try.prog) wz 22 22 ty 5 w.heap.size 0 k k ⟨b, 0, none⟩ 1 1 [.int .u8 (x : Nat)] Try.underlying22 SZ.out (by show 1 = min 1 k; omega) (fun j v hj => by
      have hj0 : j = 0 := by have := (List.getElem?_eq_some_iff.1 hj).1; simp at this; omega
      subst hj0
      cases hj
      exact c0.out) (fun j hj => by have hj0 : j = 0 := by simpa using hj
                                    subst hj0; rw [R0.out.cell (by omega)]; rfl) (fun j hj => by rw [Nat.zero_add]; exact R0.out.frozen j) (fun v hv => by simp at hv; subst hv; rfl)
    exact this
  have R1 : Hid ((wz.setCell ⟨w.heap.size, 0, none⟩ (.int .u8 (x : Nat))).rowIs w.heap.size 5 k (fun j => .int .u8 ((if j < 1 then x else 0 : Nat) : Int))) := (R0.out.set 0 _).congr (fun j hj => by
    by_cases e : j = 0
    · simp [e]
    · rw [if_neg e, if_neg (by omega)]; rfl)
  have B1 : Hid (Below w.heap.size w (wz.setCell ⟨w.heap.size, 0, none⟩ (.int .u8 (x : Nat)))) := B0.out.setCell (Nat.le_refl _) _
  generalize wz.setCell ⟨w.heap.size, 0, none⟩ (.int .u8 (x : Nat)) = wy at *
  clear R0 B0 c0 M m1
  go_wp2_with fail
  clear CP
  go_loopw [8] (fun n wr => ∃ q : Nat, 1 ≤ q ∧ q ≤ k ∧ n = .int .i64 q ∧ wr.rowIs w.heap.size 5 k (fun j => .int .u8 ((if j < q then x else 0 : Nat) : Int)) ∧ Below w.heap.size w wr) (fun n _ => k - (intOf n).toNat)
  case atStart => exact ⟨1, Nat.le_refl _, hk, rfl, R1.out, B1.out⟩
  case round =>
    clear R1 B1
    obtain ⟨q, hq1, hq2, rfl, hrow, hb⟩ := hrel
    by_cases hlt : q < k
    · have HR : Hid (wr.rowIs w.heap.size 5 k (fun j => .int .u8 ((if j < q then x else 0 : Nat) : Int))) := hrow
      have HB : Hid (Below w.heap.size w wr) := hb
      obtain ⟨m, hm⟩ : ∃ m, m = min q (k - q) := ⟨_, rfl⟩
      have hm1 : 1 ≤ m := by omega
      have hm2 : q + m ≤ k := by omega
      have hlt' : (q : Int) < (k : Int) := by omega
      have hq0 : (0 : Int) ≤ (q : Int) := by omega
      have hqk : (q : Int) ≤ (k : Int) := by omega
      have CP : ∀ ty, (Builtin.copy_ #[22, 22] ty #[.slice (some ⟨w.heap.size, q, none⟩) (k - q) (k - q), .slice (some ⟨w.heap.size, 0, none⟩) q k]).run Try.prog wr.drew = .ok (.int .i64 (m : Int)) (wr.drew.setCells w.heap.size q (bv m (fun _ => x))) := fun ty => by
        have := run_copy_cells (P := Try.prog) wr.drew 22 22 ty 5 w.heap.size q (k - q) (k - q) ⟨w.heap.size, 0, none⟩ q k (bv m (fun _ => x)) Try.underlying22 SZ.out (by rw [bv_length]; exact hm) (fun j v hj => by
          have hj' : j < m := by have := (List.getElem?_eq_some_iff.1 hj).1; rwa [bv_length] at this
          rw [bv_at hj'] at hj
          cases hj
          rw [Addr.add_lit, Nat.zero_add]
          have := HR.out.drew.cell (i := j) (by omega)
          rw [if_pos (by omega)] at this
          exact this) (fun j hj => by rw [bv_length] at hj; rw [HR.out.drew.cell (by omega)]; rfl) (fun j hj => HR.out.drew.frozen _) (bv_one _ _)
        rw [bv_length] at this
        exact this
      have R2 : Hid ((wr.drew.setCells w.heap.size q (bv m (fun _ => x))).rowIs w.heap.size 5 k (fun j => .int .u8 ((if j < q + m then x else 0 : Nat) : Int))) := (rowIs_setCells (bv m (fun _ => x)) q wr.drew _ HR.out.drew).congr (fun j hj => by
        rw [bv_length]
        by_cases e : q ≤ j ∧ j < q + m
        · rw [if_pos e, List.getD_eq_getElem?_getD, bv_at (by omega), if_pos e.2]; rfl
        · rw [if_neg e]
          by_cases e2 : j < q
          · rw [if_pos e2, if_pos (by omega)]
          · rw [if_neg e2, if_neg (by omega)])
      have B2 : Hid (Below w.heap.size w (wr.drew.setCells w.heap.size q (bv m (fun _ => x)))) := below_setCells (Nat.le_refl _) _ _ _ HB.out.drew
      clear hrow hb HR HB hm
      generalize wr.drew.setCells w.heap.size q (bv m (fun _ => x)) = wf at *
      go_wp2_with fail
      go_region
      go_wp2
      go_roundw
      case rel => exact ⟨q + m, by omega, hm2, by go_num, R2.out, B2.out⟩
      case measure => simp [intOf]; omega
    · have HR : Hid (Own8 wr w.heap.size k (fun _ => x)) := Own8.ofRow (hrow.congr (fun j hj => by rw [if_pos (by omega)]))
      have HB : Hid (Below w.heap.size w wr) := hb
      have e : q = k := by omega
      clear hrow hb
      subst e
      go_wp2
      go_ret
      exact ⟨⟨_, _, ⟨Nat.le_refl _, Nat.le_refl _⟩, rfl, HR.out⟩, HB.out⟩
theorem mem_two {w w' : World} {sb : Nat} {a1 a2 : Value} (h1 : w.cell? ⟨sb, 0, none⟩ = some a1) (h2 : w.cell? ⟨sb, 1, none⟩ = some a2) (hb : Below w.heap.size w w') : w'.cell? ⟨sb, 0, none⟩ = some a1 ∧ w'.cell? ⟨sb, 1, none⟩ = some a2 :=
  ⟨by rw [hb.cell (p := ⟨sb, 0, none⟩) (strBlock h1)]; exact h1, by rw [hb.cell (p := ⟨sb, 1, none⟩) (strBlock h2)]; exact h2⟩
set_option maxRecDepth 100000 in
set_option maxHeartbeats 2000000 in
/-- slices.Concat of two slices of bytes, the second one not empty. -/
theorem concat_any (sb b1 o1 n1 c1 b2 o2 n2 c2 : Nat) (f1 f2 : Nat → Nat) (hn1 : n1 ≤ 100000) (hn2 : 1 ≤ n2) (hn2' : n2 ≤ 100000) (w : World)
    (s1 : w.cell? ⟨sb, 0, none⟩ = some (.slice (some ⟨b1, o1, none⟩) n1 c1)) (s2 : w.cell? ⟨sb, 1, none⟩ = some (.slice (some ⟨b2, o2, none⟩) n2 c2))
    (h1 : Code8 w (some ⟨b1, o1, none⟩) n1 f1) (h2 : Code8 w (some ⟨b2, o2, none⟩) n2 f2) :
    Calls Try.prog 57 #[.slice (some ⟨sb, 0, none⟩) 2 2] w fun e w' => RetB w w' e (n1 + n2) (fun i => if i < n1 then f1 i else f2 (i - n1)) ∧ Below w.heap.size w w' := by
  obtain ⟨i0, hi⟩ := info_parts Try.info8
  have HI : Hid (Try.prog.info? 5 = some i0 ∧ i0.zero = some (.int .u8 0) ∧ i0.size = 1 ∧ i0.bytes = 1) := hi
  have GN : Hid (∀ w : World, Calls Try.prog 81 #[.slice none 0 0, .int .i64 ((n1 : Int) + (n2 : Int))] w fun e w' => (∃ b c, w.heap.size ≤ b ∧ e = .returned (.slice (some ⟨b, 0, none⟩) 0 c) ∧ w'.ownsRow w.heap.size 5 1 (.slice (some ⟨b, 0, none⟩) 0 c) 0 []) ∧ Below w.heap.size w w') := grow_nil (n1 + n2) (by omega) (by omega)
  have H1 : Hid (Code8 w (some ⟨b1, o1, none⟩) n1 f1) := h1
  have H2 : Hid (Code8 w (some ⟨b2, o2, none⟩) n2 f2) := h2
  have hb2 : b2 < w.heap.size := h2.lt _ (by omega) rfl
  have HS : Hid (w.cell? ⟨sb, 0, none⟩ = some (.slice (some ⟨b1, o1, none⟩) n1 c1) ∧ w.cell? ⟨sb, 1, none⟩ = some (.slice (some ⟨b2, o2, none⟩) n2 c2)) := ⟨s1, s2⟩
  have x1 : ¬ (n1 : Int) < 0 := by omega
  have x2 : ¬ (n1 : Int) + (n2 : Int) < 0 := by omega
  have hsb : sb < w.heap.size := strBlock s1
  clear h1 h2 hi
  go_enter Try.func57, Try.ntmps57
  go_wp2
  refine wp_loop_rounds 3 ?_
  rw [rounds_succ]
  go_wp2
  rw [rounds_succ]
  go_wp2
  rw [rounds_succ]
  go_wp2_with fail
  refine (GN.out _).mono ?_
  rintro e w1 ⟨⟨b, c, hb, rfl, hown⟩, hB⟩
  obtain ⟨t1, t2⟩ := mem_two HS.out.1 HS.out.2 hB
  have K1 : Hid (Code8 w1 (some ⟨b1, o1, none⟩) n1 f1) := H1.out.below hB
  have K2 : Hid (Code8 w1 (some ⟨b2, o2, none⟩) n2 f2) := H2.out.below hB
  have HO : Hid (w1.ownsRow w.heap.size 5 1 (.slice (some ⟨b, 0, none⟩) 0 c) 0 []) := hown
  have HB1 : Hid (Below w.heap.size w w1) := hB
  have hsz := hB.size
  clear hown hB s1 s2 HS
  go_wp2
  refine wp_loop_rounds 3 ?_
  rw [rounds_succ]
  go_wp2_with (at_builtin; refine wpList_append_own _ rfl _ _ 22 rfl w.heap.size 5 i0 (.int .u8 0) 1 1 Try.underlying22 HI.out.1 HI.out.2.1 HI.out.2.2.1 HI.out.2.2.2 rfl (by decide) _ _ _ rfl HO.out ⟨b1, o1, none⟩ n1 c1 (bv n1 f1) rfl (by rw [bv_length, Nat.mul_one]) (bv_news K1.out) (bv_one n1 f1) (by unfold maxLen; omega) (by omega) hsz ?_)
  intro v2 w2 hown2 hgrow2 hnil2
  have BG := grown_below HO.out hgrow2 hsz
  have K2' : Hid (Code8 w2 (some ⟨b2, o2, none⟩) n2 f2) := K2.out.belowAt BG hb2
  have t2' : w2.cell? ⟨sb, 1, none⟩ = some (.slice (some ⟨b2, o2, none⟩) n2 c2) := by rw [BG.cell (p := ⟨sb, 1, none⟩) hsb]; exact t2
  have HB2 : Hid (Below w.heap.size w w2) := HB1.out.trans BG
  obtain ⟨b', c', hb', rfl, -⟩ := own8_of_own hown2 hnil2
  have HO2 : Hid (w2.ownsRow w.heap.size 5 1 (.slice (some ⟨b', 0, none⟩) n1 c') n1 (bv n1 f1)) := hown2
  have hsz2 : w.heap.size ≤ w2.heap.size := HB2.out.size
  clear hown2 hgrow2 hnil2 BG K2 t1 t2 HO HB1 K1
  go_wp2
  rw [rounds_succ]
  go_wp2_with (at_builtin; refine wpList_append_own _ rfl _ _ 22 rfl w.heap.size 5 i0 (.int .u8 0) 1 1 Try.underlying22 HI.out.1 HI.out.2.1 HI.out.2.2.1 HI.out.2.2.2 rfl (by decide) _ _ _ rfl HO2.out ⟨b2, o2, none⟩ n2 c2 (bv n2 f2) rfl (by rw [bv_length, Nat.mul_one]) (bv_news K2'.out) (bv_one n2 f2) (by unfold maxLen; omega) (by omega) hsz2 ?_)
  intro v3 w3 hown3 hgrow3 hnil3
  have BG := grown_below HO2.out hgrow3 hsz2
  have HB3 : Hid (Below w.heap.size w w3) := HB2.out.trans BG
  rw [bv_append] at hown3
  obtain ⟨b'', c'', hb'', rfl, ho3⟩ := own8_of_own hown3 hnil3
  have HO3 : Hid (Own8 w3 b'' (n1 + n2) (fun i => if i < n1 then f1 i else f2 (i - n1))) := ho3
  clear hown3 hgrow3 hnil3 BG HB2 HO2 K2' t2' ho3
  go_wp2
  rw [rounds_succ]
  go_wp2
  go_ret
  exact ⟨⟨_, _, hb'', rfl, HO3.out⟩, HB3.out⟩
end Go.Proofs.Ytbhlgcenfanicaa
