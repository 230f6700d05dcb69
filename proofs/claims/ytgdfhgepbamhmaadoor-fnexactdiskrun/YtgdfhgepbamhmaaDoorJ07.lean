/-
  Slices of acts in the laws: sizes, copies, comparisons, marks (written by tools/mkacts.py).
-/
import Derived.Test.YtgdfhgepbamhmaaDoorJ04
import Derived.Test.YtgdfhgepbamhmaaDoorEls
namespace Go.Proofs.YtgdfhgepbamhmaaDoor
open Go.ChangeShapes Go.WideShapes Go.ChangeAt Go.RowKit
set_option linter.unusedVariables false
set_option linter.unusedSimpArgs false
def acE (r : Ac) (v : Value) : Nat → Value
  | 0 => .int .i64 r.kd
  | 1 => .int .i64 r.x
  | 2 => .string r.s
  | 3 => v
  | _ => .int .i64 r.t
def acEF (R : Nat → Ac) (V : Nat → Value) (i j : Nat) : Value := acE (R i) (V i) j
/-- n acts behind a slice's address, with their flags. -/
def AcV (w : World) (a : Option Addr) (n : Nat) (R : Nat → Ac) (A : Nat → Option Addr) (X : Nat → Nat) : Prop := Els w 5 a n (acEF R (fun i => .slice (A i) (R i).nk (X i))) ∧ ∀ i, i < n → Bools w (A i) (R i).nk (R i).K
theorem AcV.below {w w' : World} {a : Option Addr} {n : Nat} {R : Nat → Ac} {A : Nat → Option Addr} {X : Nat → Nat} (h : AcV w a n R A X) (hb : Below w.heap.size w w') : AcV w' a n R A X := ⟨h.1.below hb, fun i hi => (h.2 i hi).below hb⟩
theorem AcV.at {w : World} {a : Option Addr} {n : Nat} {R : Nat → Ac} {A : Nat → Option Addr} {X : Nat → Nat} (h : AcV w a n R A X) {k : Nat} (hk : k < n) : ∃ b off, a = some ⟨b, off, none⟩ ∧ ∀ j, j < 5 → w.cell? ⟨b, off + k * 5 + j, none⟩ = some (acE (R k) (.slice (A k) (R k).nk (X k)) j) := by
  obtain ⟨b, off, ha, hc⟩ := h.1.opened (by omega)
  exact ⟨b, off, ha, hc k hk⟩
theorem AcV.acts {w : World} {a : Option Addr} {n : Nat} {R : Nat → Ac} {A : Nat → Option Addr} {X : Nat → Nat} (h : AcV w a n R A X) : Acts w a n R := fun i hi => by
  obtain ⟨b, off, ha, hc⟩ := h.at hi
  have h0 := hc 0 (by omega)
  rw [Nat.add_zero] at h0
  exact ⟨b, off, A i, X i, ha, ⟨h0, hc 1 (by omega), hc 2 (by omega), hc 3 (by omega), hc 4 (by omega)⟩, h.2 i hi⟩
/-- A copy of acts in rows of a call's own: the acts lie in block g, the flags of act j in block V j, all from g on and ahead of S. -/
structure AcO (w : World) (g S n : Nat) (R : Nat → Ac) (V : Nat → Nat) : Prop where
  r : RowE w 5 (some ⟨g, 0, none⟩) g n (acEF R (fun j => .slice (some ⟨V j, 0, none⟩) (R j).nk (R j).nk))
  v : ∀ j, j < n → g < V j ∧ V j < S ∧ w.rowIs (V j) 4 (R j).nk (fun i => .bool ((R j).K i))
  s : g < S ∧ S ≤ w.heap.size
theorem AcO.below {w w' : World} {g S n : Nat} {R : Nat → Ac} {V : Nat → Nat} (h : AcO w g S n R V) (hb : Below w.heap.size w w') : AcO w' g S n R V := ⟨h.r.below (by omega) hb, fun j hj => ⟨(h.v j hj).1, (h.v j hj).2.1, World.rowIs.of_block (h.v j hj).2.2 (hb.block _ (World.rowIs.lt (h.v j hj).2.2))⟩, h.s.1, Nat.le_trans h.s.2 hb.size⟩
theorem AcO.acV {w : World} {g S n : Nat} {R : Nat → Ac} {V : Nat → Nat} (h : AcO w g S n R V) : AcV w (some ⟨g, 0, none⟩) n R (fun j => some ⟨V j, 0, none⟩) (fun j => (R j).nk) := ⟨h.r.els, fun i hi => Bools.ofRow (h.v i hi).2.2⟩
/-- How many flags the first acts have. -/
def sumNk (R : Nat → Ac) : Nat → Nat
  | 0 => 0
  | k + 1 => sumNk R k + (R k).nk
set_option maxRecDepth 100000 in
theorem szBoolS_e (a : Option Addr) (n c : Nat) (x : Int) (w : World) (hx0 : 0 ≤ x) (hx : x ≤ 1048576) (hn : n ≤ maxLen) :
    Calls Tryd.prog 34 #[.slice a n c, .int .i64 x] w fun e w' => (∃ y : Int, e = .returned (.int .i64 y) ∧ (y = -1 ∨ (0 ≤ y ∧ y = x - n))) ∧ w = w' := by
  unfold maxLen at hn
  by_cases h0 : x - (n : Int) < 0
  · go_enter Tryd.func34, Tryd.ntmps34
    go_wp2
    go_ret
    exact ⟨⟨-1, rfl, .inl rfl⟩, rfl⟩
  · go_enter Tryd.func34, Tryd.ntmps34
    go_wp2
    go_ret
    exact ⟨⟨_, rfl, .inr ⟨by omega, rfl⟩⟩, rfl⟩
set_option maxRecDepth 100000 in
set_option maxHeartbeats 2000000 in
theorem szDiskAct_e (a : Ac) (ak : Option Addr) (ck : Nat) (x : Int) (w : World) (hx0 : 0 ≤ x) (hx : x ≤ 1048576) (hn : a.nk ≤ maxLen) (hs : a.s.size ≤ maxLen) :
    Calls Tryd.prog 16 #[.agg #[.int .i64 a.kd, .int .i64 a.x, .string a.s, .slice ak a.nk ck, .int .i64 a.t], .int .i64 x] w fun e w' => (∃ y : Int, e = .returned (.int .i64 y) ∧ (y = -1 ∨ (0 ≤ y ∧ y = x - a.s.size - a.nk))) ∧ Below w.heap.size w w' := by
  have A1 : Hid (Below w.heap.size w (w.alloc (.cells #[.int .i64 a.kd, .int .i64 a.x, .string a.s, .slice ak a.nk ck, .int .i64 a.t] 43))) := (Below.refl _ _).alloc (Nat.le_refl _) _
  have SB : Hid (∀ (y : Int) (w : World), 0 ≤ y → y ≤ 1048576 → Calls Tryd.prog 34 #[.slice ak a.nk ck, .int .i64 y] w fun e w' => (∃ z : Int, e = .returned (.int .i64 z) ∧ (z = -1 ∨ (0 ≤ z ∧ z = y - a.nk))) ∧ w = w') := fun y w h1 h2 => szBoolS_e ak a.nk ck y w h1 h2 hn
  unfold maxLen at hs
  clear hn
  by_cases h0 : (a.s.size : Int) ≤ x
  · have e0 : ¬ x - (a.s.size : Int) < 0 := by omega
    go_enter Tryd.func16, Tryd.ntmps16
    go_wp2_with fail
    refine (SB.out _ _ (by omega) (by omega)).mono ?_
    rintro e w1 ⟨⟨y, rfl, hy⟩, rfl⟩
    have HY : Hid (y = -1 ∨ (0 ≤ y ∧ y = x - (a.s.size : Int) - a.nk)) := hy
    have hy1 : -1 ≤ y := by omega
    clear hy SB
    by_cases h1 : y < 0
    · go_wp2
      go_ret
      exact ⟨⟨-1, rfl, .inl rfl⟩, A1.out⟩
    · go_wp2
      go_ret
      exact ⟨⟨_, rfl, HY.out⟩, A1.out⟩
  · have e0 : x - (a.s.size : Int) < 0 := by omega
    go_enter Tryd.func16, Tryd.ntmps16
    go_wp2
    go_ret
    exact ⟨⟨-1, rfl, .inl rfl⟩, A1.out⟩
set_option maxRecDepth 100000 in
set_option maxHeartbeats 2000000 in
theorem szDiskActS_any (a : Option Addr) (n c : Nat) (R : Nat → Ac) (A : Nat → Option Addr) (X : Nat → Nat) (x : Int) (w : World) (h : AcV w a n R A X) (hx0 : 0 ≤ x) (hx : x ≤ 1048576) (hn : n ≤ maxLen) (hf : ∀ i, i < n → (R i).nk ≤ maxLen ∧ (R i).s.size ≤ maxLen) :
    Calls Tryd.prog 4 #[.slice a n c, .int .i64 x] w fun e w' => (∃ y : Int, e = .returned (.int .i64 y) ∧ y ≤ 1048576 ∧ (0 ≤ y → n + sumNk R n ≤ 1048576 ∧ ∀ i, i < n → (R i).nk ≤ 1048576 ∧ (R i).s.size ≤ 1048576)) ∧ Below w.heap.size w w' := by
  unfold maxLen at hn
  by_cases h0 : (n : Int) ≤ x
  · obtain ⟨y, hy⟩ : ∃ y, y = x - (n : Int) := ⟨_, rfl⟩
    have ey : x - (n : Int) = y := hy.symm
    have e0 : ¬ y < 0 := by omega
    have e1 : n ≤ 1048576 := by omega
    have EY : Hid (y + (n : Int) ≤ 1048576) := by show _ ≤ _; omega
    have HA : Hid (AcV w a n R A X) := h
    have HF : Hid (∀ i, i < n → (R i).nk ≤ maxLen ∧ (R i).s.size ≤ maxLen) := hf
    have y0 : y ≤ 1048576 := by omega
    clear h hf hy
    go_enter Tryd.func4, Tryd.ntmps4
    go_wp2
    go_loopw [1, 5] (fun l i wr => ∃ (k : Nat) (z : Int), k ≤ n ∧ i = .int .i64 k ∧ l = .int .i64 z ∧ 0 ≤ z ∧ z ≤ 1048576 ∧ Hid (z + (sumNk R k : Nat) ≤ y) ∧ (∀ i, i < k → (R i).nk ≤ 1048576 ∧ (R i).s.size ≤ 1048576) ∧ Below w.heap.size w wr) (fun _ i _ => n - (intOf i).toNat)
    case atStart => exact ⟨0, y, by omega, rfl, rfl, by omega, by omega, (by show y + ((0 : Nat) : Int) ≤ y; omega), fun i hi => absurd hi (Nat.not_lt_zero _), Below.refl _ _⟩
    case round =>
      obtain ⟨k, z, hk, rfl, rfl, hz, hz2, HZ, hs, hb⟩ := hrel
      have HB : Hid (Below w.heap.size w wr) := hb
      have HS : Hid (∀ i, i < k → (R i).nk ≤ 1048576 ∧ (R i).s.size ≤ 1048576) := hs
      clear hs
      by_cases hlt : k < n
      · obtain ⟨b, off, rfl, hc⟩ := (HA.out.below hb).at hlt
        have c0 := hc 0 (by omega)
        have c1 := hc 1 (by omega)
        have c2 := hc 2 (by omega)
        have c3 := hc 3 (by omega)
        have c4 := hc 4 (by omega)
        simp only [acE, Nat.add_zero] at c0 c1 c2 c3 c4
        have hlt' : (k : Int) < (n : Int) := by omega
        have SP : Hid (∀ w : World, Calls Tryd.prog 16 #[.agg #[.int .i64 (R k).kd, .int .i64 (R k).x, .string (R k).s, .slice (A k) (R k).nk (X k), .int .i64 (R k).t], .int .i64 z] w fun e w' => (∃ y : Int, e = .returned (.int .i64 y) ∧ (y = -1 ∨ (0 ≤ y ∧ y = z - (R k).s.size - (R k).nk))) ∧ Below w.heap.size w w') := fun w => szDiskAct_e (R k) (A k) (X k) z w hz hz2 (HF.out k hlt).1 (HF.out k hlt).2
        clear hc hb
        go_wp2_with fail
        refine (SP.out _).mono ?_
        rintro e w1 ⟨⟨y1, rfl, hy3⟩, hb⟩
        have B1 : Hid (Below w.heap.size w w1) := HB.out.trans (hb.mono HB.out.size)
        clear hb HB SP c0 c1 c2 c3 c4
        by_cases hz3 : y1 < 0
        · clear hy3
          go_wp2
          go_ret
          exact ⟨⟨-1, rfl, by omega, fun q => by omega⟩, B1.out⟩
        · have HY3 : Hid (y1 = z - (R k).s.size - (R k).nk) := by rcases hy3 with q | q; omega; exact q.2
          have y12 : y1 ≤ 1048576 := by have := HY3.out; omega
          have HS1 : Hid (∀ i, i < k + 1 → (R i).nk ≤ 1048576 ∧ (R i).s.size ≤ 1048576) := fun i hi => by
            have := HY3.out
            by_cases e : i = k
            · rw [e]; constructor <;> omega
            · exact HS.out i (by omega)
          have HZ1 : Hid (y1 + (sumNk R (k + 1) : Nat) ≤ y) := by
            have h1 := HY3.out
            have h2 := HZ.out
            show y1 + ((sumNk R k + (R k).nk : Nat) : Int) ≤ y
            omega
          clear hy3 HY3
          go_wp2
          go_roundw
          case rel => exact ⟨k + 1, y1, by omega, by go_num, rfl, by omega, y12, HZ1, HS1.out, B1.out⟩
          case measure => simp [intOf]; omega
      · have hlt' : ¬ (k : Int) < (n : Int) := by omega
        obtain rfl : k = n := by omega
        clear hb
        go_wp2
        go_ret
        exact ⟨⟨z, rfl, hz2, fun _ => ⟨by have h1 := HZ.out; have h2 := EY.out; omega, HS.out⟩⟩, HB.out⟩
  · have e0 : x - (n : Int) < 0 := by omega
    clear h hf
    go_enter Tryd.func4, Tryd.ntmps4
    go_wp2
    go_ret
    exact ⟨⟨-1, rfl, by omega, fun q => by omega⟩, Below.refl _ _⟩
def acZ : Ac := ⟨0, 0, ⟨#[]⟩, 0, fun _ => false, 0⟩
theorem Tryd.infAcR : (Tryd.prog.info? 46).map (fun i => (i.zero, i.size, i.bytes)) = some (some (.agg #[.int .i64 0, .int .i64 0, .string ⟨#[]⟩, .slice none 0 0, .int .i64 0]), 5, 64) := by kernel_rfl
theorem makAcR (n : Nat) (hn : n ≤ 1048576) (w : World) : (Instr.makeSlice 31 (.int .i64 n) (.int .i64 n)).run Tryd.prog w = .ok (.slice (some ⟨w.heap.size, 0, none⟩) n n) (w.alloc (.cells (madeCells #[.int .i64 0, .int .i64 0, .string ⟨#[]⟩, .slice none 0 0, .int .i64 0] (n * 5)) 46)) := by
  obtain ⟨i, hi, hzz⟩ := Option.map_eq_some_iff.1 Tryd.infAcR
  simp only [Prod.mk.injEq] at hzz
  obtain ⟨hz, hs, hb⟩ := hzz
  have hr := run_make (P := Tryd.prog) w 31 46 i _ Tryd.underlying31 hi hz .i64 .i64 n n (by omega) (Int.le_refl _) (by rw [hb]; omega) (by omega)
  simp only [Int.toNat_natCast, hs] at hr
  exact hr
theorem RowE.acMad (w : World) (n : Nat) : RowE (w.alloc (.cells (madeCells #[.int .i64 0, .int .i64 0, .string ⟨#[]⟩, .slice none 0 0, .int .i64 0] (n * 5)) 46)) 5 (some ⟨w.heap.size, 0, none⟩) w.heap.size n (acEF (fun _ => acZ) (fun _ => .slice none 0 0)) := RowE.made w 5 n _ _ rfl _ (fun i j hj => by
  rcases (show j = 0 ∨ j = 1 ∨ j = 2 ∨ j = 3 ∨ j = 4 by omega) with rfl | rfl | rfl | rfl | rfl <;> rfl)
set_option maxRecDepth 100000 in
set_option maxHeartbeats 4000000 in
theorem toDiskActS_any (a : Option Addr) (n c : Nat) (R : Nat → Ac) (A : Nat → Option Addr) (X : Nat → Nat) (hn : n ≤ 1048576) (he : ∀ i, i < n → (R i).nk ≤ 1048576) (w : World) (h : AcV w a n R A X) :
    Calls Tryd.prog 6 #[.slice a n c] w fun e w' => (∃ V : Nat → Nat, e = .returned (.slice (some ⟨w.heap.size, 0, none⟩) n n) ∧ AcO w' w.heap.size w'.heap.size n R V) ∧ Below w.heap.size w w' := by
  have m1 := makAcR n hn w
  have S0 : Hid (w.heap.size < (w.alloc (.cells (madeCells #[.int .i64 0, .int .i64 0, .string ⟨#[]⟩, .slice none 0 0, .int .i64 0] (n * 5)) 46)).heap.size) := by show _ < _; simp
  have HA : Hid (AcV w a n R A X) := h
  have HE : Hid (∀ i, i < n → (R i).nk ≤ 1048576) := he
  clear h he
  go_enter Tryd.func6, Tryd.ntmps6
  go_wp2
  clear m1
  go_loopw [4] (fun i wr => ∃ (k : Nat) (V : Nat → Nat), k ≤ n ∧ i = .int .i64 k ∧ RowE wr 5 (some ⟨w.heap.size, 0, none⟩) w.heap.size n (acEF (fun j => if j < k then R j else acZ) (fun j => if j < k then .slice (some ⟨V j, 0, none⟩) (R j).nk (R j).nk else .slice none 0 0)) ∧ (∀ j, j < k → w.heap.size < V j ∧ V j < wr.heap.size ∧ wr.rowIs (V j) 4 (R j).nk (fun i => .bool ((R j).K i))) ∧ w.heap.size < wr.heap.size ∧ Below w.heap.size w wr) (fun i _ => n - (intOf i).toNat)
  case atStart => exact ⟨0, fun _ => 0, by omega, rfl, (RowE.acMad w n).congr (fun i hi j hj => by simp [acEF]), fun j hj => absurd hj (Nat.not_lt_zero _), S0.out, (Below.refl _ _).alloc (Nat.le_refl _) _⟩
  case round =>
    clear S0
    obtain ⟨k, V, hk, rfl, hrow, hv, hsz, hb⟩ := hrel
    have HS : Hid (w.heap.size < wr.heap.size) := hsz
    have HV : Hid (∀ j, j < k → w.heap.size < V j ∧ V j < wr.heap.size ∧ wr.rowIs (V j) 4 (R j).nk (fun i => .bool ((R j).K i))) := hv
    have HB : Hid (Below w.heap.size w wr) := hb
    clear hsz hv
    by_cases hlt : k < n
    · obtain ⟨b, off, ha, hc⟩ := (HA.out.below hb).at hlt
      subst ha
      have d0 := hc 0 (by omega)
      have d1 := hc 1 (by omega)
      have d2 := hc 2 (by omega)
      have d3 := hc 3 (by omega)
      have d4 := hc 4 (by omega)
      simp only [acE, Nat.add_zero] at d0 d1 d2 d3 d4
      have hlt' : (k : Int) < (n : Int) := by omega
      have TP : Hid (∀ w0 : World, Below w.heap.size w w0 → Calls Tryd.prog 20 #[.agg #[.int .i64 (R k).kd, .int .i64 (R k).x, .string (R k).s, .slice (A k) (R k).nk (X k), .int .i64 (R k).t]] w0 fun e w' => (∃ g, e = .returned (.agg #[.int .i64 (R k).kd, .int .i64 (R k).x, .string (R k).s, .slice (some ⟨g, 0, none⟩) (R k).nk (R k).nk, .int .i64 (R k).t]) ∧ w'.rowIs g 4 (R k).nk (fun i => .bool ((R k).K i)) ∧ w0.heap.size ≤ g) ∧ Below w0.heap.size w0 w') := fun w0 q => toDiskAct_row (R k) (A k) (X k) (HE.out k hlt) w0 ((HA.out.below q).2 k hlt)
      have HR : Hid (RowE wr 5 (some ⟨w.heap.size, 0, none⟩) w.heap.size n (acEF (fun j => if j < k then R j else acZ) (fun j => if j < k then .slice (some ⟨V j, 0, none⟩) (R j).nk (R j).nk else .slice none 0 0))) := hrow
      clear hrow hb hc
      go_wp2_with fail
      refine (TP.out _ HB.out).mono ?_
      rintro e w1 ⟨⟨g, rfl, hr, hg⟩, hb⟩
      have H1 : Hid (RowE w1 5 (some ⟨w.heap.size, 0, none⟩) w.heap.size n (acEF (fun j => if j < k then R j else acZ) (fun j => if j < k then .slice (some ⟨V j, 0, none⟩) (R j).nk (R j).nk else .slice none 0 0))) := HR.out.below (by omega) hb
      have hgz : w.heap.size < g := Nat.lt_of_lt_of_le HS.out hg
      have g0 := H1.out.c k hlt 0 (by omega)
      have f0 := H1.out.z (k * 5 + 0) (by omega)
      have g1 := H1.out.c k hlt 1 (by omega)
      have f1 := H1.out.z (k * 5 + 1) (by omega)
      have g2 := H1.out.c k hlt 2 (by omega)
      have f2 := H1.out.z (k * 5 + 2) (by omega)
      have g3 := H1.out.c k hlt 3 (by omega)
      have f3 := H1.out.z (k * 5 + 3) (by omega)
      have g4 := H1.out.c k hlt 4 (by omega)
      have f4 := H1.out.z (k * 5 + 4) (by omega)
      simp only [Nat.add_zero] at g0 f0
      have O1 : OnlyB w.heap.size w1 (((((w1.setCell ⟨w.heap.size, k * 5, none⟩ (.int .i64 (R k).kd)).setCell ⟨w.heap.size, k * 5 + 1, none⟩ (.int .i64 (R k).x)).setCell ⟨w.heap.size, k * 5 + 2, none⟩ (.string (R k).s)).setCell ⟨w.heap.size, k * 5 + 3, none⟩ (.slice (some ⟨g, 0, none⟩) (R k).nk (R k).nk)).setCell ⟨w.heap.size, k * 5 + 4, none⟩ (.int .i64 (R k).t)) := ((((((OnlyB.refl w.heap.size w1).setCell (k * 5) _).setCell (k * 5 + 1) _).setCell (k * 5 + 2) _).setCell (k * 5 + 3) _).setCell (k * 5 + 4) _)
      have R5 : Hid (RowE (((((w1.setCell ⟨w.heap.size, k * 5, none⟩ (.int .i64 (R k).kd)).setCell ⟨w.heap.size, k * 5 + 1, none⟩ (.int .i64 (R k).x)).setCell ⟨w.heap.size, k * 5 + 2, none⟩ (.string (R k).s)).setCell ⟨w.heap.size, k * 5 + 3, none⟩ (.slice (some ⟨g, 0, none⟩) (R k).nk (R k).nk)).setCell ⟨w.heap.size, k * 5 + 4, none⟩ (.int .i64 (R k).t)) 5 (some ⟨w.heap.size, 0, none⟩) w.heap.size n (acEF (fun j => if j < k + 1 then R j else acZ) (fun j => if j < k + 1 then .slice (some ⟨(if j = k then g else V j), 0, none⟩) (R j).nk (R j).nk else .slice none 0 0))) := (((((H1.out.set k 0 (by omega) (.int .i64 (R k).kd)).set k 1 (by omega) (.int .i64 (R k).x)).set k 2 (by omega) (.string (R k).s)).set k 3 (by omega) (.slice (some ⟨g, 0, none⟩) (R k).nk (R k).nk)).set k 4 (by omega) (.int .i64 (R k).t)).congr (fun i hi j hj => by
        by_cases e : i = k
        · subst e
          rcases (show j = 0 ∨ j = 1 ∨ j = 2 ∨ j = 3 ∨ j = 4 by omega) with rfl | rfl | rfl | rfl | rfl <;> simp [setF, acEF, acE]
        · have e1 : (i < k + 1) = (i < k) := propext (by omega)
          simp only [setF, acEF, e1, if_neg e]
          simp [e])
      have V5 : Hid (∀ j, j < k + 1 → w.heap.size < (if j = k then g else V j) ∧ (if j = k then g else V j) < (((((w1.setCell ⟨w.heap.size, k * 5, none⟩ (.int .i64 (R k).kd)).setCell ⟨w.heap.size, k * 5 + 1, none⟩ (.int .i64 (R k).x)).setCell ⟨w.heap.size, k * 5 + 2, none⟩ (.string (R k).s)).setCell ⟨w.heap.size, k * 5 + 3, none⟩ (.slice (some ⟨g, 0, none⟩) (R k).nk (R k).nk)).setCell ⟨w.heap.size, k * 5 + 4, none⟩ (.int .i64 (R k).t)).heap.size ∧ (((((w1.setCell ⟨w.heap.size, k * 5, none⟩ (.int .i64 (R k).kd)).setCell ⟨w.heap.size, k * 5 + 1, none⟩ (.int .i64 (R k).x)).setCell ⟨w.heap.size, k * 5 + 2, none⟩ (.string (R k).s)).setCell ⟨w.heap.size, k * 5 + 3, none⟩ (.slice (some ⟨g, 0, none⟩) (R k).nk (R k).nk)).setCell ⟨w.heap.size, k * 5 + 4, none⟩ (.int .i64 (R k).t)).rowIs (if j = k then g else V j) 4 (R j).nk (fun i => .bool ((R j).K i))) := fun j hj => by
        by_cases e : j = k
        · subst e
          rw [if_pos rfl]
          have q := World.rowIs.of_block hr (O1.block _ (World.rowIs.lt hr) (by omega))
          exact ⟨hgz, World.rowIs.lt q, q⟩
        · rw [if_neg e]
          obtain ⟨q1, _, q2⟩ := HV.out j (by omega)
          have q3 := World.rowIs.of_block q2 (hb.block _ (World.rowIs.lt q2))
          have q4 := World.rowIs.of_block q3 (O1.block _ (World.rowIs.lt q3) (by omega))
          exact ⟨q1, World.rowIs.lt q4, q4⟩
      have B5 : Hid (Below w.heap.size w (((((w1.setCell ⟨w.heap.size, k * 5, none⟩ (.int .i64 (R k).kd)).setCell ⟨w.heap.size, k * 5 + 1, none⟩ (.int .i64 (R k).x)).setCell ⟨w.heap.size, k * 5 + 2, none⟩ (.string (R k).s)).setCell ⟨w.heap.size, k * 5 + 3, none⟩ (.slice (some ⟨g, 0, none⟩) (R k).nk (R k).nk)).setCell ⟨w.heap.size, k * 5 + 4, none⟩ (.int .i64 (R k).t))) := (HB.out.trans (hb.mono HB.out.size)).trans (O1.toBelow (by omega) (Nat.le_trans HB.out.size hb.size))
      have S5 : Hid (w.heap.size < (((((w1.setCell ⟨w.heap.size, k * 5, none⟩ (.int .i64 (R k).kd)).setCell ⟨w.heap.size, k * 5 + 1, none⟩ (.int .i64 (R k).x)).setCell ⟨w.heap.size, k * 5 + 2, none⟩ (.string (R k).s)).setCell ⟨w.heap.size, k * 5 + 3, none⟩ (.slice (some ⟨g, 0, none⟩) (R k).nk (R k).nk)).setCell ⟨w.heap.size, k * 5 + 4, none⟩ (.int .i64 (R k).t)).heap.size) := Nat.lt_of_lt_of_le HS.out (Nat.le_trans hb.size O1.size)
      clear H1 O1 hr hb HR HB HV HS TP hgz hg HA HE d0 d1 d2 d3 d4
      go_wp2
      go_roundw
      case rel => exact ⟨k + 1, fun j => if j = k then g else V j, by omega, by go_num, R5.out, V5.out, S5.out, B5.out⟩
      case measure => simp [intOf]; omega
    · have hlt' : ¬ (k : Int) < (n : Int) := by omega
      obtain rfl : k = n := by omega
      have HR : Hid (RowE wr 5 (some ⟨w.heap.size, 0, none⟩) w.heap.size k (acEF R (fun j => .slice (some ⟨V j, 0, none⟩) (R j).nk (R j).nk))) := hrow.congr (fun i hi j hj => by unfold acEF; dsimp only; rw [if_pos hi, if_pos hi])
      clear hrow hb
      go_wp2
      go_ret
      exact ⟨⟨rfl, V, HR.out, HV.out, HS.out, Nat.le_refl _⟩, HB.out⟩
set_option maxRecDepth 100000 in
set_option maxHeartbeats 4000000 in
theorem eqDiskActS_yes (a b : Option Addr) (n c d : Nat) (R : Nat → Ac) (A B : Nat → Option Addr) (X Y : Nat → Nat) (hn : n ≤ 1048576) (he : ∀ i, i < n → (R i).nk ≤ 1048576) (w : World) (h : AcV w a n R A X) (h' : AcV w b n R B Y) : Calls Tryd.prog 10 #[.slice a n c, .slice b n d] w fun e w' => e = .returned (.bool true) ∧ Below w.heap.size w w' := by
  have HA : Hid (AcV w a n R A X) := h
  have HB : Hid (AcV w b n R B Y) := h'
  have hnn : ((n : Int) != (n : Int)) = false := by simp
  have HN : Hid (∀ i, i < n → (R i).nk ≤ 1048576) := he
  clear h h' he
  go_enter Tryd.func10, Tryd.ntmps10
  go_wp2_with fail
  go_loopw [5] (fun iv wr => ∃ k : Nat, k ≤ n ∧ iv = .int .i64 (k : Int) ∧ Below w.heap.size w wr) (fun iv _ => n - (intOf iv).toNat)
  case atStart => exact ⟨0, by omega, rfl, Below.refl _ _⟩
  case round =>
    obtain ⟨k, hk, rfl, hb⟩ := hrel
    have A1 : Hid (Below w.heap.size w wr) := hb
    clear hb
    by_cases hlt : k < n
    · have hlt' : (k : Int) < (n : Int) := by omega
      have hk0 : (0 : Int) ≤ (k : Int) := by omega
      obtain ⟨ab, ao, ha, hac⟩ := (HA.out.below A1.out).at hlt
      obtain ⟨bb, bo, hb, hbc⟩ := (HB.out.below A1.out).at hlt
      subst ha
      subst hb
      have AC : Hid (∀ j, j < 5 → wr.cell? ⟨ab, ao + k * 5 + j, none⟩ = some (acE (R k) (.slice (A k) (R k).nk (X k)) j)) := hac
      have BC : Hid (∀ j, j < 5 → wr.cell? ⟨bb, bo + k * 5 + j, none⟩ = some (acE (R k) (.slice (B k) (R k).nk (Y k)) j)) := hbc
      have CA : Hid (∀ w' : World, Below wr.heap.size wr w' → ∀ j, j < 5 → w'.cell? ⟨ab, ao + k * 5 + j, none⟩ = some (acE (R k) (.slice (A k) (R k).nk (X k)) j)) := fun w' hb j hj => (hb.cell (strBlock (AC.out j hj))).trans (AC.out j hj)
      have CB : Hid (∀ w' : World, Below wr.heap.size wr w' → ∀ j, j < 5 → w'.cell? ⟨bb, bo + k * 5 + j, none⟩ = some (acE (R k) (.slice (B k) (R k).nk (Y k)) j)) := fun w' hb j hj => (hb.cell (strBlock (BC.out j hj))).trans (BC.out j hj)
      clear hac hbc AC BC
      go_wp2_with fail
      have H : Below wr.heap.size wr wr.drew := (Below.refl _ _).drew
      refine wp_region_noPanic ?_
      refine wp_region_held_drew (S := fun w' => Below wr.heap.size wr w') (by kernel_rfl) H (fun _ => ?_)
      generalize wr.drew = y0 at *
      refine wpAnyH_take (i := 0) (v := .slice (some ⟨ab, ao, none⟩) n c) rfl (by kernel_rfl) (by kernel_rfl) (by kernel_rfl) (fun _ _ _ h => h) (Or.inl ⟨by rfl, ?_⟩) H ?_
      · intro w' hSw; go_simp
      change wpAnyH _ _ _ _ _ _ _ { tmps := #[_, _, _, _, _, _, _, _, _, _, _, _, _, _, _, _, _, _, _, _, _, _, _, _, _, _, _], defers := _ } _
      refine wpAnyH_take (i := 1) (v := .int .i64 (k : Int)) rfl (by kernel_rfl) (by kernel_rfl) (by kernel_rfl) (fun _ _ _ h => h) (Or.inl ⟨by rfl, ?_⟩) H ?_
      · intro w' hSw; go_simp
      change wpAnyH _ _ _ _ _ _ _ { tmps := #[_, _, _, _, _, _, _, _, _, _, _, _, _, _, _, _, _, _, _, _, _, _, _, _, _, _, _], defers := _ } _
      refine wpAnyH_take (i := 2) (v := .pointer (some ⟨ab, ao + k * 5, none⟩)) rfl (by kernel_rfl) (by kernel_rfl) (by kernel_rfl) (fun _ _ _ h => h) (Or.inl ⟨by rfl, ?_⟩) H ?_
      · intro w' hSw; go_simp
      change wpAnyH _ _ _ _ _ _ _ { tmps := #[_, _, _, _, _, _, _, _, _, _, _, _, _, _, _, _, _, _, _, _, _, _, _, _, _, _, _], defers := _ } _
      refine wpAnyH_take (i := 3) (v := .agg #[.int .i64 (R k).kd, .int .i64 (R k).x, .string (R k).s, .slice (A k) (R k).nk (X k), .int .i64 (R k).t]) rfl (by kernel_rfl) (by kernel_rfl) (by kernel_rfl) (fun _ _ _ h => h) (Or.inl ⟨by rfl, ?_⟩) H ?_
      · intro w' hSw; have t0 := CA.out _ hSw 0 (by omega); have t1 := CA.out _ hSw 1 (by omega); have t2 := CA.out _ hSw 2 (by omega); have t3 := CA.out _ hSw 3 (by omega); have t4 := CA.out _ hSw 4 (by omega); simp only [acE, Nat.add_zero] at t0 t1 t2 t3 t4; clear hSw; go_simp
      change wpAnyH _ _ _ _ _ _ _ { tmps := #[_, _, _, _, _, _, _, _, _, _, _, _, _, _, _, _, _, _, _, _, _, _, _, _, _, _, _], defers := _ } _
      refine wpAnyH_take (i := 4) (v := .slice (some ⟨bb, bo, none⟩) n d) rfl (by kernel_rfl) (by kernel_rfl) (by kernel_rfl) (fun _ _ _ h => h) (Or.inl ⟨by rfl, ?_⟩) H ?_
      · intro w' hSw; go_simp
      change wpAnyH _ _ _ _ _ _ _ { tmps := #[_, _, _, _, _, _, _, _, _, _, _, _, _, _, _, _, _, _, _, _, _, _, _, _, _, _, _], defers := _ } _
      refine wpAnyH_take (i := 5) (v := .int .i64 (k : Int)) rfl (by kernel_rfl) (by kernel_rfl) (by kernel_rfl) (fun _ _ _ h => h) (Or.inl ⟨by rfl, ?_⟩) H ?_
      · intro w' hSw; go_simp
      change wpAnyH _ _ _ _ _ _ _ { tmps := #[_, _, _, _, _, _, _, _, _, _, _, _, _, _, _, _, _, _, _, _, _, _, _, _, _, _, _], defers := _ } _
      refine wpAnyH_take (i := 6) (v := .pointer (some ⟨bb, bo + k * 5, none⟩)) rfl (by kernel_rfl) (by kernel_rfl) (by kernel_rfl) (fun _ _ _ h => h) (Or.inl ⟨by rfl, ?_⟩) H ?_
      · intro w' hSw; go_simp
      change wpAnyH _ _ _ _ _ _ _ { tmps := #[_, _, _, _, _, _, _, _, _, _, _, _, _, _, _, _, _, _, _, _, _, _, _, _, _, _, _], defers := _ } _
      refine wpAnyH_take (i := 7) (v := .agg #[.int .i64 (R k).kd, .int .i64 (R k).x, .string (R k).s, .slice (B k) (R k).nk (Y k), .int .i64 (R k).t]) rfl (by kernel_rfl) (by kernel_rfl) (by kernel_rfl) (fun _ _ _ h => h) (Or.inl ⟨by rfl, ?_⟩) H ?_
      · intro w' hSw; have t0 := CB.out _ hSw 0 (by omega); have t1 := CB.out _ hSw 1 (by omega); have t2 := CB.out _ hSw 2 (by omega); have t3 := CB.out _ hSw 3 (by omega); have t4 := CB.out _ hSw 4 (by omega); simp only [acE, Nat.add_zero] at t0 t1 t2 t3 t4; clear hSw; go_simp
      change wpAnyH _ _ _ _ _ _ _ { tmps := #[_, _, _, _, _, _, _, _, _, _, _, _, _, _, _, _, _, _, _, _, _, _, _, _, _, _, _], defers := _ } _
      refine wpAnyH_ready (rs := [8]) (by kernel_rfl) (by simp) ?_
      refine (AllReadyH.cons rfl (fun KK hK => ?_) AllReadyH.nil)
      go_simp
      refine (eqDiskAct_yes (R k) (A k) (B k) (X k) (Y k) (HN.out k hlt) _ ((HA.out.below (A1.out.trans (H.mono A1.out.size))).2 k hlt) ((HB.out.below (A1.out.trans (H.mono A1.out.size))).2 k hlt)).mono ?_
      rintro e y1 ⟨rfl, hb⟩
      replace H : Below wr.heap.size wr y1 := H.trans (hb.mono H.size)
      clear hb
      refine hK.out _ _ H (fun _ => ?_)
      clear hK KK
      change wpAnyH _ _ _ _ _ _ _ { tmps := #[_, _, _, _, _, _, _, _, _, _, _, _, _, _, _, _, _, _, _, _, _, _, _, _, _, _, _], defers := _ } _
      refine wpAnyH_take (i := 9) (v := .bool false) rfl (by kernel_rfl) (by kernel_rfl) (by kernel_rfl) (fun _ _ _ h => h) (Or.inl ⟨by rfl, ?_⟩) H ?_
      · intro w' hSw; go_simp
      change wpAnyH _ _ _ _ _ _ _ { tmps := #[_, _, _, _, _, _, _, _, _, _, _, _, _, _, _, _, _, _, _, _, _, _, _, _, _, _, _], defers := _ } _
      refine wpAnyH_done (by kernel_rfl) ?_ _
      refine NoPanic.normal ?_
      have A2 : Hid (Below w.heap.size w y1) := A1.out.trans (H.mono A1.out.size)
      clear H
      change Exit.then _ _ Exit.normal { tmps := #[_, _, _, _, _, _, _, _, _, _, _, _, _, _, _, _, _, _, _, _, _, _, _, _, _, _, _], defers := _ } _
      go_wp2
      go_roundw
      case rel => exact ⟨k + 1, by omega, by go_num, A2.out⟩
      case measure => simp [intOf]; omega
    · have hlt' : ¬ (k : Int) < (n : Int) := by omega
      go_wp2
      go_ret
      exact ⟨rfl, A1.out⟩
/-- All blocks but those from B to S are as they were. -/
structure MidA (B S : Nat) (w w' : World) : Prop where
  os : w'.os = w.os
  tape : w'.tape = w.tape
  output : w'.output = w.output
  size : w.heap.size ≤ w'.heap.size
  block : ∀ k, k < w.heap.size → (k < B ∨ S ≤ k) → w'.heap[k]? = w.heap[k]?
theorem MidA.refl (B S : Nat) (w : World) : MidA B S w w := ⟨rfl, rfl, rfl, Nat.le_refl _, fun _ _ _ => rfl⟩
theorem MidA.trans {B S : Nat} {w w' w'' : World} (h : MidA B S w w') (k : MidA B S w' w'') : MidA B S w w'' :=
  ⟨k.os.trans h.os, k.tape.trans h.tape, k.output.trans h.output, Nat.le_trans h.size k.size, fun b h1 h2 => (k.block b (Nat.lt_of_lt_of_le h1 h.size) h2).trans (h.block b h1 h2)⟩
theorem MidA.ofB {B S g : Nat} {w w' : World} (h : OnlyB g w w') (h1 : B ≤ g) (h2 : g < S) : MidA B S w w' := ⟨h.os, h.tape, h.output, h.size, fun k hk hd => h.block k hk (by omega)⟩
theorem MidA.ofBelow {B S : Nat} {w w' : World} (h : Below w.heap.size w w') : MidA B S w w' := ⟨h.os, h.tape, h.output, h.size, fun k hk _ => h.block k hk⟩
theorem MidA.set {B S g : Nat} {w w' : World} (h : MidA B S w w') (h1 : B ≤ g) (h2 : g < S) (i : Nat) (v : Value) : MidA B S w (w'.setCell ⟨g, i, none⟩ v) := h.trans (MidA.ofB ((OnlyB.refl g w').setCell i v) h1 h2)
theorem MidA.toBelow {B S : Nat} {w w' : World} (h : MidA B S w w') (hB : B ≤ w.heap.size) : Below B w w' := ⟨h.os, h.tape, h.output, h.size, fun k hk => h.block k (by omega) (.inl hk)⟩
theorem rowIs_lenA {w : World} {b : Nat} {t : TypeId} {n m : Nat} {f g : Nat → Value} (h : w.rowIs b t n f) (h' : w.rowIs b t m g) : n = m := by
  obtain ⟨c, h1, h2, _⟩ := h
  obtain ⟨c', k1, k2, _⟩ := h'
  rw [h1] at k1
  cases k1
  omega
/-- Rows of flags, whatever they hold. -/
def FlagsI (w : World) (n : Nat) (V nk : Nat → Nat) : Prop := ∀ i, i < n → ∃ C : Nat → Bool, w.rowIs (V i) 4 (nk i) (fun j => .bool (C j))
theorem FlagsI.turn {w w' : World} {n : Nat} {V nk : Nat → Nat} (h : FlagsI w n V nk) {k : Nat} (hk : k < n) {C : Nat → Bool} (hr : w'.rowIs (V k) 4 (nk k) (fun j => .bool (C j))) (ho : OnlyB (V k) w w') : FlagsI w' n V nk := fun i hi => by
  obtain ⟨E, hE⟩ := h i hi
  by_cases e : V i = V k
  · obtain ⟨G, hG⟩ := h k hk
    have := rowIs_lenA (by rw [← e] at hG; exact hG) hE
    refine ⟨C, ?_⟩
    rw [e, ← this]
    exact hr
  · exact ⟨E, hE.of_block (ho.block _ hE.lt e)⟩
theorem FlagsI.set {w : World} {n : Nat} {V nk : Nat → Nat} (h : FlagsI w n V nk) {g : Nat} (hg : ∀ i, i < n → g < V i) (i : Nat) (v : Value) : FlagsI (w.setCell ⟨g, i, none⟩ v) n V nk := fun j hj => by
  obtain ⟨C, hC⟩ := h j hj
  exact ⟨C, hC.setOther (by have := hg j hj; show V j ≠ g; omega) v⟩
theorem FlagsI.below {w w' : World} {n : Nat} {V nk : Nat → Nat} (h : FlagsI w n V nk) (hb : Below w.heap.size w w') : FlagsI w' n V nk := fun j hj => by
  obtain ⟨C, hC⟩ := h j hj
  exact ⟨C, hC.of_block (hb.block _ hC.lt)⟩
set_option maxRecDepth 100000 in
set_option maxHeartbeats 1000000 in
theorem markBool_any (V m c x : Nat) (C : Nat → Bool) (hx : x + m ≤ 10000000) (w : World) (h : w.rowIs V 4 m (fun i => .bool (C i))) :
    Calls Tryd.prog 29 #[.slice (some ⟨V, 0, none⟩) m c, .int .i64 (x : Int)] w fun e w' => e = .returned (.int .i64 ((x + m : Nat) : Int)) ∧ (∃ E : Nat → Bool, w'.rowIs V 4 m (fun i => .bool (E i))) ∧ OnlyB V w w' := by
  have H : Hid (w.rowIs V 4 m (fun i => .bool (C i))) := h
  clear h
  go_enter Tryd.func29, Tryd.ntmps29
  go_wp2
  go_loopw [1, 5] (fun y i wr => ∃ (j : Nat) (E : Nat → Bool), j ≤ m ∧ i = .int .i64 (j : Int) ∧ y = .int .i64 ((x + j : Nat) : Int) ∧ wr.rowIs V 4 m (fun i => .bool (E i)) ∧ OnlyB V w wr) (fun _ i _ => m - (intOf i).toNat)
  case atStart => exact ⟨0, C, by omega, rfl, rfl, H.out, OnlyB.refl _ _⟩
  case round =>
    obtain ⟨j, E, hj, rfl, rfl, hr, ht⟩ := hrel
    by_cases hlt : j < m
    · have t0 := hr.cell hlt
      have t1 := hr.frozen j
      obtain ⟨u, hu⟩ : ∃ u : Bool, u = ((((x + j : Nat) : Int) % 3) == 0) := ⟨_, rfl⟩
      have qu : (((x : Int) + (j : Int)) % 3 == 0) = u := by rw [hu]; first | rfl | (congr 1)
      have R2 : Hid ((wr.setCell ⟨V, j, none⟩ (.bool u)).rowIs V 4 m (fun i => .bool (if i = j then u else E i))) := (hr.set j (.bool u)).congr (fun i hi => by by_cases e : i = j <;> simp [e])
      have T2 : Hid (OnlyB V w (wr.setCell ⟨V, j, none⟩ (.bool u))) := ht.setCell j _
      clear hr ht hu
      go_wp2
      go_roundw
      case rel => exact ⟨j + 1, _, by omega, by go_num, by go_num, R2.out, T2.out⟩
      case measure => simp [intOf]; omega
    · obtain rfl : j = m := by omega
      have R2 : Hid (∃ E : Nat → Bool, wr.rowIs V 4 j (fun i => .bool (E i))) := ⟨E, hr⟩
      have T2 : Hid (OnlyB V w wr) := ht
      clear hr ht
      go_wp2
      go_ret
      exact ⟨rfl, R2.out, T2.out⟩
def sumF (nk : Nat → Nat) : Nat → Nat
  | 0 => 0
  | k + 1 => sumF nk k + nk k
theorem sumF_mono (nk : Nat → Nat) (k : Nat) : ∀ n, k ≤ n → sumF nk k ≤ sumF nk n
  | 0, h => by obtain rfl : k = 0 := by omega
               exact Nat.le_refl _
  | n + 1, h => by
    rcases Nat.lt_or_ge n k with q | q
    · obtain rfl : k = n + 1 := by omega
      exact Nat.le_refl _
    · exact Nat.le_trans (sumF_mono nk k n q) (Nat.le_add_right _ _)
set_option maxRecDepth 100000 in
set_option maxHeartbeats 4000000 in
theorem markDiskActS_any (B S g n c : Nat) (V nk : Nat → Nat) (F : Nat → Nat → Value) (hn : 1 + 4 * n + sumF nk n ≤ 9000000) (h0 : B ≤ g ∧ g < S) (hV : ∀ i, i < n → g < V i ∧ V i < S) (hF : ∀ i, i < n → F i 3 = .slice (some ⟨V i, 0, none⟩) (nk i) (nk i)) (w : World) (h : RowE w 5 (some ⟨g, 0, none⟩) g n F) (hN : FlagsI w n V nk) :
    Calls Tryd.prog 11 #[.slice (some ⟨g, 0, none⟩) n c, .int .i64 1] w fun e w' => (∃ k : Nat, e = .returned (.int .i64 (k : Int))) ∧ MidA B S w w' := by
  have H0 : Hid (RowE w 5 (some ⟨g, 0, none⟩) g n F) := h
  have HN : Hid (FlagsI w n V nk) := hN
  have HF : Hid (∀ i, i < n → F i 3 = .slice (some ⟨V i, 0, none⟩) (nk i) (nk i)) := hF
  have HV : Hid (∀ i, i < n → g < V i ∧ V i < S) := hV
  have HG : Hid (B ≤ g ∧ g < S) := h0
  have HSM : Hid (∀ k, k < n → sumF nk k + nk k ≤ sumF nk n) := fun k hk => sumF_mono nk (k + 1) n hk
  have HB9 : Hid (1 + 4 * n + sumF nk n ≤ 9000000) := hn
  have hn9 : n ≤ 9000000 := by omega
  clear h hN hF hV h0 hn
  go_enter Tryd.func11, Tryd.ntmps11
  go_wp2_with fail
  go_loopw [1, 5] (fun x i wr => ∃ (k q : Nat) (G : Nat → Nat → Value), k ≤ n ∧ i = .int .i64 (k : Int) ∧ x = .int .i64 (q : Int) ∧ Hid (1 ≤ q ∧ q ≤ 1 + 4 * k + sumF nk k) ∧ RowE wr 5 (some ⟨g, 0, none⟩) g n G ∧ (∀ i, i < n → G i 3 = .slice (some ⟨V i, 0, none⟩) (nk i) (nk i)) ∧ FlagsI wr n V nk ∧ MidA B S w wr) (fun _ i _ => n - (intOf i).toNat)
  case atStart => exact ⟨0, 1, F, by omega, rfl, rfl, ⟨by omega, by omega⟩, H0.out, HF.out, HN.out, MidA.refl _ _ _⟩
  case round =>
    obtain ⟨k, q, G, hk, rfl, rfl, HQ, hr, hG, hN, hM⟩ := hrel
    by_cases hlt : k < n
    · have hlt' : (k : Int) < (n : Int) := by omega
      have hq9 : q ≤ 9000000 ∧ 1 ≤ q := by have h1 := HQ.out; have h2 := HSM.out k hlt; have h3 := HB9.out; omega
      obtain ⟨hq8, hq1⟩ := hq9
      have t0 := hr.c k hlt 0 (by omega)
      have z0 := hr.z (k * 5 + 0) (by omega)
      have t1 := hr.c k hlt 1 (by omega)
      have z1 := hr.z (k * 5 + 1) (by omega)
      have t2 := hr.c k hlt 2 (by omega)
      have z2 := hr.z (k * 5 + 2) (by omega)
      have t3 := hr.c k hlt 3 (by omega)
      have z3 := hr.z (k * 5 + 3) (by omega)
      have t4 := hr.c k hlt 4 (by omega)
      have z4 := hr.z (k * 5 + 4) (by omega)
      rw [Nat.add_zero] at t0 z0
      have R5 : Hid (RowE ((wr.setCell ⟨g, k * 5, none⟩ (.int .i64 ((q : Int)))).setCell ⟨g, k * 5 + 1, none⟩ (.int .i64 ((q : Int) + 1))) 5 (some ⟨g, 0, none⟩) g n (setF (setF G k 0 (.int .i64 ((q : Int)))) k 1 (.int .i64 ((q : Int) + 1)))) := ((hr.set k 0 (by omega) (.int .i64 ((q : Int)))).set k 1 (by omega) (.int .i64 ((q : Int) + 1)))
      have G5 : Hid (∀ i, i < n → (setF (setF G k 0 (.int .i64 ((q : Int)))) k 1 (.int .i64 ((q : Int) + 1))) i 3 = .slice (some ⟨V i, 0, none⟩) (nk i) (nk i)) := fun i hi => by simp [setF, hG i hi]
      have M5 : Hid (MidA B S w ((wr.setCell ⟨g, k * 5, none⟩ (.int .i64 ((q : Int)))).setCell ⟨g, k * 5 + 1, none⟩ (.int .i64 ((q : Int) + 1)))) := ((hM.set HG.out.1 HG.out.2 (k * 5) _).set HG.out.1 HG.out.2 (k * 5 + 1) _)
      have N5 : Hid (FlagsI ((wr.setCell ⟨g, k * 5, none⟩ (.int .i64 ((q : Int)))).setCell ⟨g, k * 5 + 1, none⟩ (.int .i64 ((q : Int) + 1))) n V nk) := ((hN.set (fun i hi => (HV.out i hi).1) (k * 5) _).set (fun i hi => (HV.out i hi).1) (k * 5 + 1) _)
      have MT : Hid (∀ w : World, Calls Tryd.prog 28 #[.int .i64 ((q : Int) + 1 + 1)] w fun e w' => e = .returned (.string (mt (q + 2))) ∧ Below w.heap.size w w') := fun w => by
        have := markText_any (q + 2) (by omega) (by omega) w
        rwa [show ((q + 2 : Nat) : Int) = (q : Int) + 1 + 1 from by omega] at this
      generalize mt (q + 2) = mq at *
      clear hr hG hN hM t3 z3
      go_wp2_with fail
      generalize ((wr.setCell ⟨g, k * 5, none⟩ (.int .i64 ((q : Int)))).setCell ⟨g, k * 5 + 1, none⟩ (.int .i64 ((q : Int) + 1))) = w5 at *
      generalize (setF (setF G k 0 (.int .i64 ((q : Int)))) k 1 (.int .i64 ((q : Int) + 1))) = G5f at *
      refine (MT.out w5).mono ?_
      rintro e w6 ⟨rfl, hb⟩
      have R6 : RowE w6 5 (some ⟨g, 0, none⟩) g n G5f := R5.out.below (by omega) hb
      have M6 : MidA B S w w6 := M5.out.trans (MidA.ofBelow hb)
      have N6 : FlagsI w6 n V nk := N5.out.below hb
      have s2 := R6.c k hlt 2 (by omega)
      have u2 := R6.z (k * 5 + 2) (by omega)
      have s3 := R6.c k hlt 3 (by omega)
      rw [G5.out k hlt] at s3
      have R7 : Hid (RowE (w6.setCell ⟨g, k * 5 + 2, none⟩ (.string mq)) 5 (some ⟨g, 0, none⟩) g n (setF G5f k 2 (.string mq))) := (R6.set k 2 (by omega) (.string mq))
      have G7 : Hid (∀ i, i < n → (setF G5f k 2 (.string mq)) i 3 = .slice (some ⟨V i, 0, none⟩) (nk i) (nk i)) := fun i hi => by simp [setF, G5.out i hi]
      have M7 : Hid (MidA B S w (w6.setCell ⟨g, k * 5 + 2, none⟩ (.string mq))) := (M6.set HG.out.1 HG.out.2 (k * 5 + 2) _)
      have N7 : Hid (FlagsI (w6.setCell ⟨g, k * 5 + 2, none⟩ (.string mq)) n V nk) := (N6.set (fun i hi => (HV.out i hi).1) (k * 5 + 2) _)
      have x7 : Hid ((q : Int) + 1 + 1 + 1 = ((q + 3 : Nat) : Int)) := by show _ = _; omega
      clear R5 M5 N5 G5 R6 M6 N6 hb MT t0 t1 t2 t4 z0 z1 z2 z4
      go_wp2_with fail
      generalize (w6.setCell ⟨g, k * 5 + 2, none⟩ (.string mq)) = w7 at *
      generalize (setF G5f k 2 (.string mq)) = G7f at *
      rw [x7.out]
      obtain ⟨C, hC⟩ := N7.out k hlt
      refine (markBool_any (V k) (nk k) (nk k) (q + 3) C (by have h1 := HQ.out; have h2 := HSM.out k hlt; have h3 := HB9.out; omega) w7 hC).mono ?_
      rintro e w8 ⟨rfl, ⟨E, hE⟩, ho⟩
      have N8 : FlagsI w8 n V nk := N7.out.turn hlt hE ho
      have M8 : MidA B S w w8 := M7.out.trans (MidA.ofB ho (by have := HV.out k hlt; have := HG.out; omega) (HV.out k hlt).2)
      have R8 : RowE w8 5 (some ⟨g, 0, none⟩) g n G7f := R7.out.onlyB (by omega) ho (fun _ => by have := (HV.out k hlt).1; omega)
      obtain ⟨y, hy⟩ : ∃ y : Nat, y = q + 3 + nk k := ⟨_, rfl⟩
      rw [← hy]
      have HY : Hid (y = q + 3 + nk k) := hy
      have y9 : y ≤ 9000003 := by have h1 := HQ.out; have h2 := HSM.out k hlt; have h3 := HB9.out; omega
      have s4 := R8.c k hlt 4 (by omega)
      have u4 := R8.z (k * 5 + 4) (by omega)
      have R9 : Hid (RowE (w8.setCell ⟨g, k * 5 + 4, none⟩ (.int .i64 ((y : Int)))) 5 (some ⟨g, 0, none⟩) g n (setF G7f k 4 (.int .i64 ((y : Int))))) := (R8.set k 4 (by omega) (.int .i64 ((y : Int))))
      have G9 : Hid (∀ i, i < n → (setF G7f k 4 (.int .i64 ((y : Int)))) i 3 = .slice (some ⟨V i, 0, none⟩) (nk i) (nk i)) := fun i hi => by simp [setF, G7.out i hi]
      have M9 : Hid (MidA B S w (w8.setCell ⟨g, k * 5 + 4, none⟩ (.int .i64 ((y : Int))))) := (M8.set HG.out.1 HG.out.2 (k * 5 + 4) _)
      have N9 : Hid (FlagsI (w8.setCell ⟨g, k * 5 + 4, none⟩ (.int .i64 ((y : Int)))) n V nk) := (N8.set (fun i hi => (HV.out i hi).1) (k * 5 + 4) _)
      have HQ2 : Hid (1 ≤ y + 1 ∧ y + 1 ≤ 1 + 4 * (k + 1) + sumF nk (k + 1)) := by have h1 := HQ.out; have h2 := HY.out; have h3 : sumF nk (k + 1) = sumF nk k + nk k := rfl; exact ⟨by omega, by omega⟩
      clear R7 G7 M7 N7 N8 M8 R8 hC hE ho hy HY HQ
      go_wp2
      go_roundw
      case rel => exact ⟨k + 1, y + 1, _, by omega, by go_num, by go_num, HQ2, R9.out, G9.out, N9.out, M9.out⟩
      case measure => simp [intOf]; omega
    · obtain rfl : k = n := by omega
      have hlt' : ¬ (k : Int) < (k : Int) := by omega
      have M2 : Hid (MidA B S w wr) := hM
      clear hr hG hN hM HQ
      go_wp2
      go_ret
      exact ⟨⟨q, rfl⟩, M2.out⟩
end Go.Proofs.YtgdfhgepbamhmaaDoor
