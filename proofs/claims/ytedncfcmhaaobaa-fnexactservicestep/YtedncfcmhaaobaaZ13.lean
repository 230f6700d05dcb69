/-
  Texts of the proof, joined: SvcZ.
-/
import Derived.Test.YtedncfcmhaaobaaZ12
namespace Go.Proofs.Ytedncfcmhaaobaa
open Go.ChangeShapes Go.WideShapes Go.ChangeAt Go.RowKit
set_option linter.unusedVariables false
structure Wo where
 mc : Int
 mt : Int
 ne : Nat
 E : Nat → Int
 bg : Int
 en : Int
def woV (r : Wo) (v : Value) : Nat → Value
 | 0 => .int .i64 r.mc
 | 1 => .int .i64 r.mt
 | 2 => v
 | 3 => .int .i64 r.bg
 | _ => .int .i64 r.en
def woF (R : Nat → Wo) (V : Nat → Value) (i j : Nat) : Value := woV (R i) (V i) j
structure Ro where
 ne : Nat
 E : Nat → Int
 bc : Int
 bt : Int
 bg : Int
 en : Int
def roV (r : Ro) (v : Value) : Nat → Value
 | 0 => v
 | 1 => .int .i64 r.bc
 | 2 => .int .i64 r.bt
 | 3 => .int .i64 r.bg
 | _ => .int .i64 r.en
def roF (R : Nat → Ro) (V : Nat → Value) (i j : Nat) : Value := roV (R i) (V i) j
def WoV (w : World) (a : Option Addr) (n : Nat) (R : Nat → Wo) (A : Nat → Option Addr) (X : Nat → Nat) : Prop := Els w 5 a n (woF R (fun i => .slice (A i) (R i).ne (X i))) ∧ ∀ i, i < n → Num w (A i) (R i).ne (R i).E
theorem WoV.below {w w' : World} {a : Option Addr} {n : Nat} {R : Nat → Wo} {A : Nat → Option Addr} {X : Nat → Nat} (h : WoV w a n R A X) (hb : Below w.heap.size w w') : WoV w' a n R A X := ⟨h.1.below hb, fun i hi => (h.2 i hi).below hb⟩
theorem WoV.at {w : World} {a : Option Addr} {n : Nat} {R : Nat → Wo} {A : Nat → Option Addr} {X : Nat → Nat} (h : WoV w a n R A X) {k : Nat} (hk : k < n) : ∃ b off, a = some ⟨b, off, none⟩ ∧ ∀ j, j < 5 → w.cell? ⟨b, off + k * 5 + j, none⟩ = some (woV (R k) (.slice (A k) (R k).ne (X k)) j) := by
 obtain ⟨b, off, ha, hc⟩ := h.1.opened (by omega)
 exact ⟨b, off, ha, hc k hk⟩
def RoV (w : World) (a : Option Addr) (n : Nat) (R : Nat → Ro) (A : Nat → Option Addr) (X : Nat → Nat) : Prop := Els w 5 a n (roF R (fun i => .slice (A i) (R i).ne (X i))) ∧ ∀ i, i < n → Num w (A i) (R i).ne (R i).E
theorem RoV.below {w w' : World} {a : Option Addr} {n : Nat} {R : Nat → Ro} {A : Nat → Option Addr} {X : Nat → Nat} (h : RoV w a n R A X) (hb : Below w.heap.size w w') : RoV w' a n R A X := ⟨h.1.below hb, fun i hi => (h.2 i hi).below hb⟩
theorem RoV.at {w : World} {a : Option Addr} {n : Nat} {R : Nat → Ro} {A : Nat → Option Addr} {X : Nat → Nat} (h : RoV w a n R A X) {k : Nat} (hk : k < n) : ∃ b off, a = some ⟨b, off, none⟩ ∧ ∀ j, j < 5 → w.cell? ⟨b, off + k * 5 + j, none⟩ = some (roV (R k) (.slice (A k) (R k).ne (X k)) j) := by
 obtain ⟨b, off, ha, hc⟩ := h.1.opened (by omega)
 exact ⟨b, off, ha, hc k hk⟩
set_option maxRecDepth 100000 in
theorem szIntS_any (a : Option Addr) (n c : Nat) (x : Int) (w : World) (hx0 : 0 ≤ x) (hx : x ≤ 1048576) (hn : n ≤ maxLen) :
  Calls Try.prog 100 #[.slice a n c, .int .i64 x] w fun e w' => (∃ y : Int, e = .returned (.int .i64 y) ∧ -1 ≤ y ∧ y ≤ 1048576 ∧ (0 ≤ y → n ≤ 1048576)) ∧ w = w' := by
 unfold maxLen at hn
 have x2 : IntKind.i64.wrap (x - (n : Int)) = x - (n : Int) := IntWalk.i64_in _ (by omega)
 by_cases h0 : x - (n : Int) < 0
 ·go_enter Try.func100, Try.ntmps100
  go_wp2
  go_ret
  exact ⟨⟨-1, rfl, by omega, by omega, by omega⟩, rfl⟩
 ·go_enter Try.func100, Try.ntmps100
  go_wp2
  go_ret
  exact ⟨⟨_, rfl, by omega, by omega, by omega⟩, rfl⟩
set_option maxRecDepth 100000 in
theorem szReplica_any (r : Rp) (a : Option Addr) (c : Nat) (x : Int) (w : World) (hx0 : 0 ≤ x) (hx : x ≤ 1048576) (hn : r.ne ≤ maxLen) :
  Calls Try.prog 75 #[.agg #[.bool r.mute, .int .i64 r.nc, .int .i64 r.nt, .int .i64 r.sc, .int .i64 r.st, .slice a r.ne c, .int .i64 r.bc, .int .i64 r.bt], .int .i64 x] w fun e w' => (∃ y : Int, e = .returned (.int .i64 y) ∧ -1 ≤ y ∧ y ≤ 1048576 ∧ (0 ≤ y → r.ne ≤ 1048576)) ∧ Below w.heap.size w w' := by
 have S : Hid (∀ w : World, Calls Try.prog 100 #[.slice a r.ne c, .int .i64 x] w fun e w' => (∃ y : Int, e = .returned (.int .i64 y) ∧ -1 ≤ y ∧ y ≤ 1048576 ∧ (0 ≤ y → r.ne ≤ 1048576)) ∧ w = w') := fun w => szIntS_any a r.ne c x w hx0 hx hn
 have A1 : Hid (Below w.heap.size w (w.alloc (.cells #[.bool r.mute, .int .i64 r.nc, .int .i64 r.nt, .int .i64 r.sc, .int .i64 r.st, .slice a r.ne c, .int .i64 r.bc, .int .i64 r.bt] 110))) := (Below.refl w.heap.size w).alloc (Nat.le_refl _) _
 clear hx0 hx hn
 go_enter Try.func75, Try.ntmps75
 go_wp2_with fail
 refine (S.out _).mono ?_
 rintro e w1 ⟨⟨y, rfl, hy, hy1, hy2⟩, rfl⟩
 clear S
 by_cases h0 : y < 0
 ·go_wp2
  go_ret
  exact ⟨⟨-1, rfl, by omega, by omega, by omega⟩, A1.out⟩
 ·go_wp2
  go_ret
  exact ⟨⟨y, rfl, by omega, by omega, hy2⟩, A1.out⟩
set_option maxRecDepth 100000 in
set_option maxHeartbeats 1000000 in
theorem szReplicaS_any (a : Option Addr) (n c : Nat) (R : Nat → Rp) (A : Nat → Option Addr) (X : Nat → Nat) (x : Int) (w : World) (h : Els w 8 a n (rpF R (fun i => .slice (A i) (R i).ne (X i)))) (hx0 : 0 ≤ x) (hx : x ≤ 1048576) (hn : n ≤ maxLen) (hf : ∀ i, i < n → (R i).ne ≤ maxLen) :
  Calls Try.prog 34 #[.slice a n c, .int .i64 x] w fun e w' => (∃ y : Int, e = .returned (.int .i64 y) ∧ -1 ≤ y ∧ y ≤ 1048576 ∧ (0 ≤ y → n ≤ 1048576 ∧ ∀ i, i < n → (R i).ne ≤ 1048576)) ∧ Below w.heap.size w w' := by
 unfold maxLen at hn
 by_cases h0 : (n : Int) ≤ x
 ·obtain ⟨y, hy⟩ : ∃ y, y = x - (n : Int) := ⟨_, rfl⟩
  have ey : x - (n : Int) = y := hy.symm
  have e0 : ¬ y < 0 := by omega
  have e1 : n ≤ 1048576 := by omega
  have HA : Hid (Els w 8 a n (rpF R (fun i => .slice (A i) (R i).ne (X i)))) := h
  have HF : Hid (∀ i, i < n → (R i).ne ≤ maxLen) := hf
  have y0 : y ≤ 1048576 := by omega
  clear h hf hy
  go_enter Try.func34, Try.ntmps34
  go_wp2
  go_loopw [1, 5] (fun l i wr => ∃ (k : Nat) (z : Int), k ≤ n ∧ i = .int .i64 k ∧ l = .int .i64 z ∧ 0 ≤ z ∧ z ≤ 1048576 ∧ (∀ i, i < k → (R i).ne ≤ 1048576) ∧ Below w.heap.size w wr) (fun _ i _ => n - (intOf i).toNat)
  case atStart => exact ⟨0, y, by omega, rfl, rfl, by omega, by omega, fun i hi => absurd hi (Nat.not_lt_zero _), Below.refl _ _⟩
  case round =>
   obtain ⟨k, z, hk, rfl, rfl, hz, hz2, hs, hb⟩ := hrel
   have HB : Hid (Below w.heap.size w wr) := hb
   have HS : Hid (∀ i, i < k → (R i).ne ≤ 1048576) := hs
   clear hs
   by_cases hlt : k < n
   ·obtain ⟨b, off, rfl, hc⟩ := (HA.out.below hb).opened (by omega)
    have c0 := hc k hlt 0 (by omega)
    have c1 := hc k hlt 1 (by omega)
    have c2 := hc k hlt 2 (by omega)
    have c3 := hc k hlt 3 (by omega)
    have c4 := hc k hlt 4 (by omega)
    have c5 := hc k hlt 5 (by omega)
    have c6 := hc k hlt 6 (by omega)
    have c7 := hc k hlt 7 (by omega)
    simp only [rpF, rpV, Nat.add_zero] at c0 c1 c2 c3 c4 c5 c6 c7
    have hlt' : (k : Int) < (n : Int) := by omega
    have SP : Hid (∀ w : World, Calls Try.prog 75 #[.agg #[.bool (R k).mute, .int .i64 (R k).nc, .int .i64 (R k).nt, .int .i64 (R k).sc, .int .i64 (R k).st, .slice (A k) (R k).ne (X k), .int .i64 (R k).bc, .int .i64 (R k).bt], .int .i64 z] w fun e w' => (∃ y : Int, e = .returned (.int .i64 y) ∧ -1 ≤ y ∧ y ≤ 1048576 ∧ (0 ≤ y → (R k).ne ≤ 1048576)) ∧ Below w.heap.size w w') := fun w => szReplica_any (R k) (A k) (X k) z w hz hz2 (HF.out k hlt)
    clear hc hb
    go_wp2_with fail
    refine (SP.out _).mono ?_
    rintro e w1 ⟨⟨y1, rfl, hy1, hy2, hy3⟩, hb⟩
    have B1 : Hid (Below w.heap.size w w1) := HB.out.trans (hb.mono HB.out.size)
    clear hb HB SP c0 c1 c2 c3 c4 c5 c6 c7
    by_cases hz3 : y1 < 0
    ·clear hy3
     go_wp2
     go_ret
     exact ⟨⟨-1, rfl, by omega, by omega, by omega⟩, B1.out⟩
    ·have HS1 : Hid (∀ i, i < k + 1 → (R i).ne ≤ 1048576) := fun i hi => by
      by_cases e : i = k
      ·rw [e]; exact hy3 (by omega)
      ·exact HS.out i (by omega)
     clear hy3
     go_wp2
     go_roundw
     case rel => exact ⟨k + 1, y1, by omega, by go_num, rfl, by omega, by omega, HS1.out, B1.out⟩
     case measure => simp [intOf]; omega
   ·have hlt' : ¬ (k : Int) < (n : Int) := by omega
    obtain rfl : k = n := by omega
    clear hb
    go_wp2
    go_ret
    exact ⟨⟨z, rfl, by omega, hz2, fun _ => HS.out⟩, HB.out⟩
 ·have e0 : x - (n : Int) < 0 := by omega
  go_enter Try.func34, Try.ntmps34
  go_wp2
  go_ret
  exact ⟨⟨-1, rfl, by omega, by omega, by omega⟩, Below.refl _ _⟩
set_option maxRecDepth 100000 in
theorem szWriteOp_any (r : Wo) (a : Option Addr) (c : Nat) (x : Int) (w : World) (hx0 : 0 ≤ x) (hx : x ≤ 1048576) (hn : r.ne ≤ maxLen) :
  Calls Try.prog 76 #[.agg #[.int .i64 r.mc, .int .i64 r.mt, .slice a r.ne c, .int .i64 r.bg, .int .i64 r.en], .int .i64 x] w fun e w' => (∃ y : Int, e = .returned (.int .i64 y) ∧ -1 ≤ y ∧ y ≤ 1048576 ∧ (0 ≤ y → r.ne ≤ 1048576)) ∧ Below w.heap.size w w' := by
 have S : Hid (∀ w : World, Calls Try.prog 100 #[.slice a r.ne c, .int .i64 x] w fun e w' => (∃ y : Int, e = .returned (.int .i64 y) ∧ -1 ≤ y ∧ y ≤ 1048576 ∧ (0 ≤ y → r.ne ≤ 1048576)) ∧ w = w') := fun w => szIntS_any a r.ne c x w hx0 hx hn
 have A1 : Hid (Below w.heap.size w (w.alloc (.cells #[.int .i64 r.mc, .int .i64 r.mt, .slice a r.ne c, .int .i64 r.bg, .int .i64 r.en] 113))) := (Below.refl w.heap.size w).alloc (Nat.le_refl _) _
 clear hx0 hx hn
 go_enter Try.func76, Try.ntmps76
 go_wp2_with fail
 refine (S.out _).mono ?_
 rintro e w1 ⟨⟨y, rfl, hy, hy1, hy2⟩, rfl⟩
 clear S
 by_cases h0 : y < 0
 ·go_wp2
  go_ret
  exact ⟨⟨-1, rfl, by omega, by omega, by omega⟩, A1.out⟩
 ·go_wp2
  go_ret
  exact ⟨⟨y, rfl, by omega, by omega, hy2⟩, A1.out⟩
set_option maxRecDepth 100000 in
set_option maxHeartbeats 1000000 in
theorem szWriteOpS_any (a : Option Addr) (n c : Nat) (R : Nat → Wo) (A : Nat → Option Addr) (X : Nat → Nat) (x : Int) (w : World) (h : Els w 5 a n (woF R (fun i => .slice (A i) (R i).ne (X i)))) (hx0 : 0 ≤ x) (hx : x ≤ 1048576) (hn : n ≤ maxLen) (hf : ∀ i, i < n → (R i).ne ≤ maxLen) :
  Calls Try.prog 35 #[.slice a n c, .int .i64 x] w fun e w' => (∃ y : Int, e = .returned (.int .i64 y) ∧ -1 ≤ y ∧ y ≤ 1048576 ∧ (0 ≤ y → n ≤ 1048576 ∧ ∀ i, i < n → (R i).ne ≤ 1048576)) ∧ Below w.heap.size w w' := by
 unfold maxLen at hn
 by_cases h0 : (n : Int) ≤ x
 ·obtain ⟨y, hy⟩ : ∃ y, y = x - (n : Int) := ⟨_, rfl⟩
  have ey : x - (n : Int) = y := hy.symm
  have e0 : ¬ y < 0 := by omega
  have e1 : n ≤ 1048576 := by omega
  have HA : Hid (Els w 5 a n (woF R (fun i => .slice (A i) (R i).ne (X i)))) := h
  have HF : Hid (∀ i, i < n → (R i).ne ≤ maxLen) := hf
  have y0 : y ≤ 1048576 := by omega
  clear h hf hy
  go_enter Try.func35, Try.ntmps35
  go_wp2
  go_loopw [1, 5] (fun l i wr => ∃ (k : Nat) (z : Int), k ≤ n ∧ i = .int .i64 k ∧ l = .int .i64 z ∧ 0 ≤ z ∧ z ≤ 1048576 ∧ (∀ i, i < k → (R i).ne ≤ 1048576) ∧ Below w.heap.size w wr) (fun _ i _ => n - (intOf i).toNat)
  case atStart => exact ⟨0, y, by omega, rfl, rfl, by omega, by omega, fun i hi => absurd hi (Nat.not_lt_zero _), Below.refl _ _⟩
  case round =>
   obtain ⟨k, z, hk, rfl, rfl, hz, hz2, hs, hb⟩ := hrel
   have HB : Hid (Below w.heap.size w wr) := hb
   have HS : Hid (∀ i, i < k → (R i).ne ≤ 1048576) := hs
   clear hs
   by_cases hlt : k < n
   ·obtain ⟨b, off, rfl, hc⟩ := (HA.out.below hb).opened (by omega)
    have c0 := hc k hlt 0 (by omega)
    have c1 := hc k hlt 1 (by omega)
    have c2 := hc k hlt 2 (by omega)
    have c3 := hc k hlt 3 (by omega)
    have c4 := hc k hlt 4 (by omega)
    simp only [woF, woV, Nat.add_zero] at c0 c1 c2 c3 c4
    have hlt' : (k : Int) < (n : Int) := by omega
    have SP : Hid (∀ w : World, Calls Try.prog 76 #[.agg #[.int .i64 (R k).mc, .int .i64 (R k).mt, .slice (A k) (R k).ne (X k), .int .i64 (R k).bg, .int .i64 (R k).en], .int .i64 z] w fun e w' => (∃ y : Int, e = .returned (.int .i64 y) ∧ -1 ≤ y ∧ y ≤ 1048576 ∧ (0 ≤ y → (R k).ne ≤ 1048576)) ∧ Below w.heap.size w w') := fun w => szWriteOp_any (R k) (A k) (X k) z w hz hz2 (HF.out k hlt)
    clear hc hb
    go_wp2_with fail
    refine (SP.out _).mono ?_
    rintro e w1 ⟨⟨y1, rfl, hy1, hy2, hy3⟩, hb⟩
    have B1 : Hid (Below w.heap.size w w1) := HB.out.trans (hb.mono HB.out.size)
    clear hb HB SP c0 c1 c2 c3 c4
    by_cases hz3 : y1 < 0
    ·clear hy3
     go_wp2
     go_ret
     exact ⟨⟨-1, rfl, by omega, by omega, by omega⟩, B1.out⟩
    ·have HS1 : Hid (∀ i, i < k + 1 → (R i).ne ≤ 1048576) := fun i hi => by
      by_cases e : i = k
      ·rw [e]; exact hy3 (by omega)
      ·exact HS.out i (by omega)
     clear hy3
     go_wp2
     go_roundw
     case rel => exact ⟨k + 1, y1, by omega, by go_num, rfl, by omega, by omega, HS1.out, B1.out⟩
     case measure => simp [intOf]; omega
   ·have hlt' : ¬ (k : Int) < (n : Int) := by omega
    obtain rfl : k = n := by omega
    clear hb
    go_wp2
    go_ret
    exact ⟨⟨z, rfl, by omega, hz2, fun _ => HS.out⟩, HB.out⟩
 ·have e0 : x - (n : Int) < 0 := by omega
  go_enter Try.func35, Try.ntmps35
  go_wp2
  go_ret
  exact ⟨⟨-1, rfl, by omega, by omega, by omega⟩, Below.refl _ _⟩
set_option maxRecDepth 100000 in
theorem szReadOp_any (r : Ro) (a : Option Addr) (c : Nat) (x : Int) (w : World) (hx0 : 0 ≤ x) (hx : x ≤ 1048576) (hn : r.ne ≤ maxLen) :
  Calls Try.prog 77 #[.agg #[.slice a r.ne c, .int .i64 r.bc, .int .i64 r.bt, .int .i64 r.bg, .int .i64 r.en], .int .i64 x] w fun e w' => (∃ y : Int, e = .returned (.int .i64 y) ∧ -1 ≤ y ∧ y ≤ 1048576 ∧ (0 ≤ y → r.ne ≤ 1048576)) ∧ Below w.heap.size w w' := by
 have S : Hid (∀ w : World, Calls Try.prog 100 #[.slice a r.ne c, .int .i64 x] w fun e w' => (∃ y : Int, e = .returned (.int .i64 y) ∧ -1 ≤ y ∧ y ≤ 1048576 ∧ (0 ≤ y → r.ne ≤ 1048576)) ∧ w = w') := fun w => szIntS_any a r.ne c x w hx0 hx hn
 have A1 : Hid (Below w.heap.size w (w.alloc (.cells #[.slice a r.ne c, .int .i64 r.bc, .int .i64 r.bt, .int .i64 r.bg, .int .i64 r.en] 116))) := (Below.refl w.heap.size w).alloc (Nat.le_refl _) _
 clear hx0 hx hn
 go_enter Try.func77, Try.ntmps77
 go_wp2_with fail
 refine (S.out _).mono ?_
 rintro e w1 ⟨⟨y, rfl, hy, hy1, hy2⟩, rfl⟩
 clear S
 by_cases h0 : y < 0
 ·go_wp2
  go_ret
  exact ⟨⟨-1, rfl, by omega, by omega, by omega⟩, A1.out⟩
 ·go_wp2
  go_ret
  exact ⟨⟨y, rfl, by omega, by omega, hy2⟩, A1.out⟩
set_option maxRecDepth 100000 in
set_option maxHeartbeats 1000000 in
theorem szReadOpS_any (a : Option Addr) (n c : Nat) (R : Nat → Ro) (A : Nat → Option Addr) (X : Nat → Nat) (x : Int) (w : World) (h : Els w 5 a n (roF R (fun i => .slice (A i) (R i).ne (X i)))) (hx0 : 0 ≤ x) (hx : x ≤ 1048576) (hn : n ≤ maxLen) (hf : ∀ i, i < n → (R i).ne ≤ maxLen) :
  Calls Try.prog 36 #[.slice a n c, .int .i64 x] w fun e w' => (∃ y : Int, e = .returned (.int .i64 y) ∧ -1 ≤ y ∧ y ≤ 1048576 ∧ (0 ≤ y → n ≤ 1048576 ∧ ∀ i, i < n → (R i).ne ≤ 1048576)) ∧ Below w.heap.size w w' := by
 unfold maxLen at hn
 by_cases h0 : (n : Int) ≤ x
 ·obtain ⟨y, hy⟩ : ∃ y, y = x - (n : Int) := ⟨_, rfl⟩
  have ey : x - (n : Int) = y := hy.symm
  have e0 : ¬ y < 0 := by omega
  have e1 : n ≤ 1048576 := by omega
  have HA : Hid (Els w 5 a n (roF R (fun i => .slice (A i) (R i).ne (X i)))) := h
  have HF : Hid (∀ i, i < n → (R i).ne ≤ maxLen) := hf
  have y0 : y ≤ 1048576 := by omega
  clear h hf hy
  go_enter Try.func36, Try.ntmps36
  go_wp2
  go_loopw [1, 5] (fun l i wr => ∃ (k : Nat) (z : Int), k ≤ n ∧ i = .int .i64 k ∧ l = .int .i64 z ∧ 0 ≤ z ∧ z ≤ 1048576 ∧ (∀ i, i < k → (R i).ne ≤ 1048576) ∧ Below w.heap.size w wr) (fun _ i _ => n - (intOf i).toNat)
  case atStart => exact ⟨0, y, by omega, rfl, rfl, by omega, by omega, fun i hi => absurd hi (Nat.not_lt_zero _), Below.refl _ _⟩
  case round =>
   obtain ⟨k, z, hk, rfl, rfl, hz, hz2, hs, hb⟩ := hrel
   have HB : Hid (Below w.heap.size w wr) := hb
   have HS : Hid (∀ i, i < k → (R i).ne ≤ 1048576) := hs
   clear hs
   by_cases hlt : k < n
   ·obtain ⟨b, off, rfl, hc⟩ := (HA.out.below hb).opened (by omega)
    have c0 := hc k hlt 0 (by omega)
    have c1 := hc k hlt 1 (by omega)
    have c2 := hc k hlt 2 (by omega)
    have c3 := hc k hlt 3 (by omega)
    have c4 := hc k hlt 4 (by omega)
    simp only [roF, roV, Nat.add_zero] at c0 c1 c2 c3 c4
    have hlt' : (k : Int) < (n : Int) := by omega
    have SP : Hid (∀ w : World, Calls Try.prog 77 #[.agg #[.slice (A k) (R k).ne (X k), .int .i64 (R k).bc, .int .i64 (R k).bt, .int .i64 (R k).bg, .int .i64 (R k).en], .int .i64 z] w fun e w' => (∃ y : Int, e = .returned (.int .i64 y) ∧ -1 ≤ y ∧ y ≤ 1048576 ∧ (0 ≤ y → (R k).ne ≤ 1048576)) ∧ Below w.heap.size w w') := fun w => szReadOp_any (R k) (A k) (X k) z w hz hz2 (HF.out k hlt)
    clear hc hb
    go_wp2_with fail
    refine (SP.out _).mono ?_
    rintro e w1 ⟨⟨y1, rfl, hy1, hy2, hy3⟩, hb⟩
    have B1 : Hid (Below w.heap.size w w1) := HB.out.trans (hb.mono HB.out.size)
    clear hb HB SP c0 c1 c2 c3 c4
    by_cases hz3 : y1 < 0
    ·clear hy3
     go_wp2
     go_ret
     exact ⟨⟨-1, rfl, by omega, by omega, by omega⟩, B1.out⟩
    ·have HS1 : Hid (∀ i, i < k + 1 → (R i).ne ≤ 1048576) := fun i hi => by
      by_cases e : i = k
      ·rw [e]; exact hy3 (by omega)
      ·exact HS.out i (by omega)
     clear hy3
     go_wp2
     go_roundw
     case rel => exact ⟨k + 1, y1, by omega, by go_num, rfl, by omega, by omega, HS1.out, B1.out⟩
     case measure => simp [intOf]; omega
   ·have hlt' : ¬ (k : Int) < (n : Int) := by omega
    obtain rfl : k = n := by omega
    clear hb
    go_wp2
    go_ret
    exact ⟨⟨z, rfl, by omega, hz2, fun _ => HS.out⟩, HB.out⟩
 ·have e0 : x - (n : Int) < 0 := by omega
  go_enter Try.func36, Try.ntmps36
  go_wp2
  go_ret
  exact ⟨⟨-1, rfl, by omega, by omega, by omega⟩, Below.refl _ _⟩
end Go.Proofs.Ytedncfcmhaaobaa
