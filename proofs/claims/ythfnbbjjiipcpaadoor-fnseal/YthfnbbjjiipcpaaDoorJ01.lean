/-
  The model's source of draws (l00Src): what it holds, and the contracts of byte, next, blob, BlobOf.
-/
import Derived.Test.YthfnbbjjiipcpaaDoorStrS
import Derived.Test.YthfnbbjjiipcpaaDoorCode8
import Derived.Test.YthfnbbjjiipcpaaDoorTxtA
import Derived.Test.YthfnbbjjiipcpaaDoorJ14
import Derived.Test.YthfnbbjjiipcpaaDoorTxt
import Derived.BigRegion
import Derived.Deep.Cut
import Derived.Deep.CutRange
import Derived.Deep.DeepCutAuto
import Derived.OwnWalk
import Derived.Lib.AppendZeros
import Derived.Lib.AppendZerosOnto
import Derived.Laws.Tables
import Derived.Test.YthfnbbjjiipcpaaDoorSlices
import Derived.Test.YthfnbbjjiipcpaaDoorPadS
import Derived.Test.YthfnbbjjiipcpaaDoorAt
namespace Go.Proofs.YthfnbbjjiipcpaaDoor
open Go.ChangeShapes Go.WideShapes Go.ChangeAt Go.RowKit
/-- The byte that is drawn, and the seed behind it. -/
def drawB (len : Nat) (z : Nat → Nat) (at_ seed : Nat) : Nat × Nat :=
  if at_ + 1 ≤ len then (z at_, (seed * 31 + z at_ + 7) % 2147483648) else if 3000 < at_ + 1 then (0, seed) else ((seed * 1103515245 + 12345) % 2147483648 / 65536 % 256, (seed * 1103515245 + 12345) % 2147483648)
theorem drawB_lt {len : Nat} {z : Nat → Nat} (hz : ∀ i, z i < 256) {at_ seed : Nat} (hs : seed < 2147483648) : (drawB len z at_ seed).1 < 256 ∧ (drawB len z at_ seed).2 < 2147483648 := by
  unfold drawB
  split
  · exact ⟨hz _, Nat.mod_lt _ (by omega)⟩
  · split
    · exact ⟨by omega, hs⟩
    · exact ⟨Nat.mod_lt _ (by omega), Nat.mod_lt _ (by omega)⟩
/-- A source in block b. -/
structure Src (w : World) (b : Nat) (a : Option Addr) (len cap at_ seed : Nat) : Prop where
  code : w.cell? ⟨b, 0, none⟩ = some (.slice a len cap)
  at1 : w.cell? ⟨b, 1, none⟩ = some (.int .i64 (at_ : Nat))
  seed2 : w.cell? ⟨b, 2, none⟩ = some (.int .i64 (seed : Nat))
  free1 : w.frozen? ⟨b, 1, none⟩ = false
  free2 : w.frozen? ⟨b, 2, none⟩ = false
theorem Src.lt {w : World} {b : Nat} {a : Option Addr} {len cap at_ seed : Nat} (h : Src w b a len cap at_ seed) : b < w.heap.size := strBlock h.code
theorem Src.below {w w' : World} {b : Nat} {a : Option Addr} {len cap at_ seed : Nat} (h : Src w b a len cap at_ seed) (hb : Below w.heap.size w w') : Src w' b a len cap at_ seed :=
  ⟨by rw [hb.cell (p := ⟨b, 0, none⟩) h.lt]; exact h.code, by rw [hb.cell (p := ⟨b, 1, none⟩) h.lt]; exact h.at1, by rw [hb.cell (p := ⟨b, 2, none⟩) h.lt]; exact h.seed2, by rw [hb.frozen (p := ⟨b, 1, none⟩) h.lt]; exact h.free1, by rw [hb.frozen (p := ⟨b, 2, none⟩) h.lt]; exact h.free2⟩
theorem Src.onlyB {w w' : World} {b c : Nat} {a : Option Addr} {len cap at_ seed : Nat} (h : Src w b a len cap at_ seed) (ho : OnlyB c w w') (hne : b ≠ c) : Src w' b a len cap at_ seed := by
  have hb := ho.block b h.lt hne
  exact ⟨by rw [World.cell?_of_block (w := w) hb]; exact h.code, by rw [World.cell?_of_block (w := w) hb]; exact h.at1, by rw [World.cell?_of_block (w := w) hb]; exact h.seed2, by rw [World.frozen?_of_block (w := w) hb]; exact h.free1, by rw [World.frozen?_of_block (w := w) hb]; exact h.free2⟩
theorem OnlyB.trans {b : Nat} {w w' w'' : World} (h : OnlyB b w w') (k : OnlyB b w' w'') : OnlyB b w w'' :=
  ⟨k.os.trans h.os, k.tape.trans h.tape, k.output.trans h.output, Nat.le_trans h.size k.size, fun j hj hn => (k.block j (Nat.lt_of_lt_of_le hj h.size) hn).trans (h.block j hj hn)⟩
theorem OnlyB.drewN {b : Nat} {w w' : World} (h : OnlyB b w w') (q : Nat) : OnlyB b w (w'.drewN q) := ⟨h.os, h.tape, h.output, h.size, h.block⟩
set_option maxRecDepth 100000 in
set_option maxHeartbeats 2000000 in
/-- (*l00Src).byte -/
theorem byte_any (b : Nat) (a : Option Addr) (len cap at_ seed : Nat) (z : Nat → Nat) (hz : ∀ i, z i < 256) (hat : at_ ≤ 100000000) (hs : seed < 2147483648) (hl : len ≤ maxLen) (hsep : ∀ x, 0 < len → a = some x → x.block ≠ b) (w : World) (h : Src w b a len cap at_ seed) (hc : Code8 w a len z) :
    Calls Tryd.prog 101 #[.pointer (some ⟨b, 0, none⟩)] w fun e w' => e = .returned (.int .i64 ((drawB len z at_ seed).1 : Nat)) ∧ Src w' b a len cap (at_ + 1) (drawB len z at_ seed).2 ∧ OnlyB b w w' := by
  obtain ⟨h0, h1, h2, f1, f2⟩ := h
  have hl' : (len : Int) ≤ 9223372036854775807 := by unfold maxLen at hl; omega
  by_cases hin : at_ + 1 ≤ len
  · obtain ⟨cb, off, rfl, hcell⟩ := hc.opened (by omega)
    have hne : cb ≠ b := hsep _ (by omega) rfl
    have c1 := hcell at_ (by omega)
    have lz := hz at_
    have DR : Hid (drawB len z at_ seed = (z at_, (seed * 31 + z at_ + 7) % 2147483648)) := by show drawB _ _ _ _ = _; unfold drawB; rw [if_pos hin]
    have x1 : (at_ : Int) + 1 ≤ (len : Int) := by omega
    clear hc hcell hsep hz
    generalize z at_ = Z at *
    have em : ((seed : Int) * 31 + (Z : Int) + 7) % 2147483648 = (((seed * 31 + Z + 7) % 2147483648 : Nat) : Int) := by omega
    go_enter Tryd.func101, Tryd.ntmps101
    go_wp2
    have k0 : (w.setCell ⟨b, 1, none⟩ (.int .i64 ((at_ : Int) + 1))).cell? ⟨b, 0, none⟩ = some (.slice (some ⟨cb, off, none⟩) len cap) := by rw [World.cell?_setCell_other _ _ _ _ (by intro e; cases e)]; exact h0
    have k1 : (w.setCell ⟨b, 1, none⟩ (.int .i64 ((at_ : Int) + 1))).cell? ⟨b, 1, none⟩ = some (.int .i64 ((at_ : Int) + 1)) := World.cell?_setCell_same _ _ _ h1
    have k2 : (w.setCell ⟨b, 1, none⟩ (.int .i64 ((at_ : Int) + 1))).cell? ⟨b, 2, none⟩ = some (.int .i64 (seed : Nat)) := by rw [World.cell?_setCell_other _ _ _ _ (by intro e; cases e)]; exact h2
    have k3 : (w.setCell ⟨b, 1, none⟩ (.int .i64 ((at_ : Int) + 1))).cell? ⟨cb, off + at_, none⟩ = some (.int .u8 (Z : Nat)) := by rw [World.cell?_setCell_other _ _ _ _ (by intro e; exact hne (congrArg Addr.block e).symm)]; exact c1
    have g1 : (w.setCell ⟨b, 1, none⟩ (.int .i64 ((at_ : Int) + 1))).frozen? ⟨b, 1, none⟩ = false := by rw [World.frozen?_setCell]; exact f1
    have g2 : (w.setCell ⟨b, 1, none⟩ (.int .i64 ((at_ : Int) + 1))).frozen? ⟨b, 2, none⟩ = false := by rw [World.frozen?_setCell]; exact f2
    have HO : Hid (OnlyB b w (w.setCell ⟨b, 1, none⟩ (.int .i64 ((at_ : Int) + 1)))) := (OnlyB.refl b w).setCell 1 _
    clear h0 h1 h2 f1 f2 c1
    generalize (w.setCell ⟨b, 1, none⟩ (.int .i64 ((at_ : Int) + 1))) = w1 at *
    go_quiet (fail)
    rw [← World.cell?_drewN (n := nq)] at k0 k1 k2 k3
    rw [← World.frozen?_drewN (n := nq)] at g1 g2
    have HO2 : Hid (OnlyB b w (w1.drewN nq)) := HO.out.drewN nq
    clear HO
    generalize w1.drewN nq = w2 at *
    go_wp2
    have et : ((at_ : Int) + 1 - 1) = (at_ : Int) := by omega
    have x2 : (at_ : Int) < (len : Int) := by omega
    have x3 : (0 : Int) ≤ (at_ : Int) := by omega
    have ew : IntKind.i64.wrap (at_ : Int) = (at_ : Int) := IntWalk.i64_in _ ⟨by omega, by omega⟩
    have wS : IntKind.i64.wrap ((seed : Int) * 31) = (seed : Int) * 31 := IntWalk.i64_in _ ⟨by omega, by omega⟩
    have wZ : IntKind.i64.wrap (Z : Int) = (Z : Int) := IntWalk.i64_in _ ⟨by omega, by omega⟩
    have wA : IntKind.i64.wrap ((seed : Int) * 31 + (Z : Int)) = (seed : Int) * 31 + (Z : Int) := IntWalk.i64_in _ ⟨by omega, by omega⟩
    have wB : IntKind.i64.wrap ((seed : Int) * 31 + (Z : Int) + 7) = (seed : Int) * 31 + (Z : Int) + 7 := IntWalk.i64_in _ ⟨by omega, by omega⟩
    have tm : ((seed : Int) * 31 + (Z : Int) + 7).tmod 2147483648 = (((seed * 31 + Z + 7) % 2147483648 : Nat) : Int) := by
      rw [show (seed : Int) * 31 + (Z : Int) + 7 = ((seed * 31 + Z + 7 : Nat) : Int) from by omega]; exact (Int.ofNat_tmod (seed * 31 + Z + 7) 2147483648).symm
    generalize (seed * 31 + Z + 7) % 2147483648 = S' at *
    go_cut [0] (fun p wx => p = .pointer (some ⟨b, 0, none⟩) ∧ wx = (w2.setCell ⟨b, 2, none⟩ (.int .i64 (S' : Nat))).drew)
    case first =>
      go_region
      all_goals (go_wp2_with fail; go_meet; exact ⟨rfl, rfl⟩)
    case rest =>
      obtain ⟨rfl, rfl⟩ := hcut
      have q0 : ((w2.setCell ⟨b, 2, none⟩ (.int .i64 (S' : Nat))).drew).cell? ⟨b, 0, none⟩ = some (.slice (some ⟨cb, off, none⟩) len cap) := by
        show (w2.setCell ⟨b, 2, none⟩ (.int .i64 (S' : Nat))).cell? _ = _
        rw [World.cell?_setCell_other _ _ _ _ (by intro e; cases e)]; exact k0
      have q1 : ((w2.setCell ⟨b, 2, none⟩ (.int .i64 (S' : Nat))).drew).cell? ⟨b, 1, none⟩ = some (.int .i64 ((at_ : Int) + 1)) := by
        show (w2.setCell ⟨b, 2, none⟩ (.int .i64 (S' : Nat))).cell? _ = _
        rw [World.cell?_setCell_other _ _ _ _ (by intro e; cases e)]; exact k1
      have q2 : ((w2.setCell ⟨b, 2, none⟩ (.int .i64 (S' : Nat))).drew).cell? ⟨b, 2, none⟩ = some (.int .i64 (S' : Nat)) := by
        show (w2.setCell ⟨b, 2, none⟩ (.int .i64 (S' : Nat))).cell? _ = _
        exact World.cell?_setCell_same _ _ _ k2
      have q3 : ((w2.setCell ⟨b, 2, none⟩ (.int .i64 (S' : Nat))).drew).cell? ⟨cb, off + at_, none⟩ = some (.int .u8 (Z : Nat)) := by
        show (w2.setCell ⟨b, 2, none⟩ (.int .i64 (S' : Nat))).cell? _ = _
        rw [World.cell?_setCell_other _ _ _ _ (by intro e; exact hne (congrArg Addr.block e).symm)]; exact k3
      have q4 : ((w2.setCell ⟨b, 2, none⟩ (.int .i64 (S' : Nat))).drew).frozen? ⟨b, 1, none⟩ = false := by
        show (w2.setCell ⟨b, 2, none⟩ (.int .i64 (S' : Nat))).frozen? _ = _
        rw [World.frozen?_setCell]; exact g1
      have q5 : ((w2.setCell ⟨b, 2, none⟩ (.int .i64 (S' : Nat))).drew).frozen? ⟨b, 2, none⟩ = false := by
        show (w2.setCell ⟨b, 2, none⟩ (.int .i64 (S' : Nat))).frozen? _ = _
        rw [World.frozen?_setCell]; exact g2
      have HO3 : Hid (OnlyB b w ((w2.setCell ⟨b, 2, none⟩ (.int .i64 (S' : Nat))).drew)) := (HO2.out.setCell 2 _).drewN 1
      have HS3 : Hid (Src ((w2.setCell ⟨b, 2, none⟩ (.int .i64 (S' : Nat))).drew) b (some ⟨cb, off, none⟩) len cap (at_ + 1) S') := ⟨q0, q1, q2, q4, q5⟩
      clear k0 k1 k2 k3 g1 g2 HO2 q2 q4 q5
      generalize (w2.setCell ⟨b, 2, none⟩ (.int .i64 (S' : Nat))).drew = w3 at *
      go_wp2_with fail
      go_quiet (fail)
      go_wp2
      go_ret
      rw [DR.out]
      exact ⟨rfl, ⟨HS3.out.code, HS3.out.at1, HS3.out.seed2, HS3.out.free1, HS3.out.free2⟩, HO3.out.drewN _⟩
  · have x1 : ¬ (at_ : Int) + 1 ≤ (len : Int) := by omega
    have DR0 : Hid (drawB len z at_ seed = if 3000 < at_ + 1 then (0, seed) else ((seed * 1103515245 + 12345) % 2147483648 / 65536 % 256, (seed * 1103515245 + 12345) % 2147483648)) := by show drawB _ _ _ _ = _; unfold drawB; rw [if_neg hin]
    clear hc hsep hz hin
    go_enter Tryd.func101, Tryd.ntmps101
    go_wp2
    have k0 : (w.setCell ⟨b, 1, none⟩ (.int .i64 ((at_ : Int) + 1))).cell? ⟨b, 0, none⟩ = some (.slice a len cap) := by rw [World.cell?_setCell_other _ _ _ _ (by intro e; cases e)]; exact h0
    have k1 : (w.setCell ⟨b, 1, none⟩ (.int .i64 ((at_ : Int) + 1))).cell? ⟨b, 1, none⟩ = some (.int .i64 ((at_ : Int) + 1)) := World.cell?_setCell_same _ _ _ h1
    have k2 : (w.setCell ⟨b, 1, none⟩ (.int .i64 ((at_ : Int) + 1))).cell? ⟨b, 2, none⟩ = some (.int .i64 (seed : Nat)) := by rw [World.cell?_setCell_other _ _ _ _ (by intro e; cases e)]; exact h2
    have g1 : (w.setCell ⟨b, 1, none⟩ (.int .i64 ((at_ : Int) + 1))).frozen? ⟨b, 1, none⟩ = false := by rw [World.frozen?_setCell]; exact f1
    have g2 : (w.setCell ⟨b, 1, none⟩ (.int .i64 ((at_ : Int) + 1))).frozen? ⟨b, 2, none⟩ = false := by rw [World.frozen?_setCell]; exact f2
    have HO : Hid (OnlyB b w (w.setCell ⟨b, 1, none⟩ (.int .i64 ((at_ : Int) + 1)))) := (OnlyB.refl b w).setCell 1 _
    clear h0 h1 h2 f1 f2
    generalize (w.setCell ⟨b, 1, none⟩ (.int .i64 ((at_ : Int) + 1))) = w1 at *
    go_quiet (fail)
    rw [← World.cell?_drewN (n := nq)] at k0 k1 k2
    rw [← World.frozen?_drewN (n := nq)] at g1 g2
    have HO2 : Hid (OnlyB b w (w1.drewN nq)) := HO.out.drewN nq
    clear HO
    generalize w1.drewN nq = w2 at *
    have HS2 : Hid (Src w2 b a len cap (at_ + 1) seed) := ⟨k0, k1, k2, g1, g2⟩
    by_cases hbig : 3000 < at_ + 1
    · have x2 : (3000 : Int) < (at_ : Int) + 1 := by omega
      have DR : Hid (drawB len z at_ seed = (0, seed)) := by show drawB _ _ _ _ = _; rw [DR0.out, if_pos hbig]
      go_wp2
      go_ret
      rw [DR.out]
      exact ⟨rfl, HS2.out, HO2.out⟩
    · have x2 : ¬ (3000 : Int) < (at_ : Int) + 1 := by omega
      have DR : Hid (drawB len z at_ seed = ((seed * 1103515245 + 12345) % 2147483648 / 65536 % 256, (seed * 1103515245 + 12345) % 2147483648)) := by show drawB _ _ _ _ = _; rw [DR0.out, if_neg hbig]
      have wS : IntKind.i64.wrap ((seed : Int) * 1103515245) = (seed : Int) * 1103515245 := IntWalk.i64_in _ ⟨by omega, by omega⟩
      have wA : IntKind.i64.wrap ((seed : Int) * 1103515245 + 12345) = (seed : Int) * 1103515245 + 12345 := IntWalk.i64_in _ ⟨by omega, by omega⟩
      have tm : ((seed : Int) * 1103515245 + 12345).tmod 2147483648 = (((seed * 1103515245 + 12345) % 2147483648 : Nat) : Int) := by
        rw [show (seed : Int) * 1103515245 + 12345 = ((seed * 1103515245 + 12345 : Nat) : Int) from by omega]; exact (Int.ofNat_tmod (seed * 1103515245 + 12345) 2147483648).symm
      have em : ((seed : Int) * 1103515245 + 12345) % 2147483648 = (((seed * 1103515245 + 12345) % 2147483648 : Nat) : Int) := by omega
      have hS' : (seed * 1103515245 + 12345) % 2147483648 < 2147483648 := Nat.mod_lt _ (by omega)
      generalize (seed * 1103515245 + 12345) % 2147483648 = S' at *
      have HS3 : Hid (Src (w2.setCell ⟨b, 2, none⟩ (.int .i64 (S' : Nat))) b a len cap (at_ + 1) S') :=
        ⟨by rw [World.cell?_setCell_other _ _ _ _ (by intro e; cases e)]; exact k0, by rw [World.cell?_setCell_other _ _ _ _ (by intro e; cases e)]; exact k1, World.cell?_setCell_same _ _ _ k2, by rw [World.frozen?_setCell]; exact g1, by rw [World.frozen?_setCell]; exact g2⟩
      go_wp2
      go_ret
      rw [DR.out]
      exact ⟨by go_num, HS3.out, HO2.out.setCell 2 _⟩
set_option maxRecDepth 100000 in
/-- (*l00Src).next of at most 256 -/
theorem next_any (n : Nat) (hn : 2 ≤ n) (hn' : n ≤ 256) (b : Nat) (a : Option Addr) (len cap at_ seed : Nat) (z : Nat → Nat) (hz : ∀ i, z i < 256) (hat : at_ ≤ 100000000) (hs : seed < 2147483648) (hl : len ≤ maxLen) (hsep : ∀ x, 0 < len → a = some x → x.block ≠ b) (w : World) (h : Src w b a len cap at_ seed) (hc : Code8 w a len z) :
    Calls Tryd.prog 75 #[.pointer (some ⟨b, 0, none⟩), .int .i64 (n : Int)] w fun e w' => e = .returned (.int .i64 (((drawB len z at_ seed).1 % n : Nat) : Int)) ∧ Src w' b a len cap (at_ + 1) (drawB len z at_ seed).2 ∧ OnlyB b w w' := by
  have BY : Hid (∀ w : World, Src w b a len cap at_ seed → Code8 w a len z → Calls Tryd.prog 101 #[.pointer (some ⟨b, 0, none⟩)] w fun e w' => e = .returned (.int .i64 ((drawB len z at_ seed).1 : Nat)) ∧ Src w' b a len cap (at_ + 1) (drawB len z at_ seed).2 ∧ OnlyB b w w') := fun w h hc => byte_any b a len cap at_ seed z hz hat hs hl hsep w h hc
  have lb := (drawB_lt (len := len) hz (at_ := at_) hs).1
  have H : Hid (Src w b a len cap at_ seed) := h
  have HC : Hid (Code8 w a len z) := hc
  have x1 : ¬ (n : Int) ≤ 1 := by omega
  have x2 : (n : Int) ≤ 256 := by omega
  clear h hc hsep hz
  generalize (drawB len z at_ seed).1 = V at *
  generalize (drawB len z at_ seed).2 = S at *
  have em : ((V : Int)).tmod (n : Int) = ((V % n : Nat) : Int) := (Int.ofNat_tmod V n).symm
  have hn0 : ((n : Int) == 0) = false := by rw [beq_eq_false_iff_ne]; omega
  go_enter Tryd.func75, Tryd.ntmps75
  go_wp2_with fail
  refine (BY.out _ H.out HC.out).mono ?_
  rintro e w1 ⟨rfl, hs1, ho1⟩
  have HS1 : Hid (Src w1 b a len cap (at_ + 1) S) := hs1
  have HO1 : Hid (OnlyB b w w1) := ho1
  clear hs1 ho1
  go_wp2
  go_ret
  exact ⟨by go_num, HS1.out, HO1.out⟩
/-- The seed when k bytes more are drawn. -/
def seedK (len : Nat) (z : Nat → Nat) (at_ seed : Nat) : Nat → Nat
  | 0 => seed
  | k + 1 => (drawB len z (at_ + k) (seedK len z at_ seed k)).2
/-- The k-th byte that is drawn. -/
def byteK (len : Nat) (z : Nat → Nat) (at_ seed k : Nat) : Nat := (drawB len z (at_ + k) (seedK len z at_ seed k)).1
theorem seedK_lt {len : Nat} {z : Nat → Nat} (hz : ∀ i, z i < 256) {at_ seed : Nat} (hs : seed < 2147483648) : ∀ k, seedK len z at_ seed k < 2147483648
  | 0 => hs
  | k + 1 => (drawB_lt hz (seedK_lt hz hs k)).2
theorem byteK_lt {len : Nat} {z : Nat → Nat} (hz : ∀ i, z i < 256) {at_ seed : Nat} (hs : seed < 2147483648) (k : Nat) : byteK len z at_ seed k < 256 := (drawB_lt hz (seedK_lt hz hs k)).1
theorem OnlyB.belowAt {b : Nat} {w w' w'' : World} (h : OnlyB b w w') (hb : Below w.heap.size w' w'') : OnlyB b w w'' :=
  ⟨hb.os.trans h.os, hb.tape.trans h.tape, hb.output.trans h.output, Nat.le_trans h.size hb.size, fun k hk hn => (hb.block k hk).trans (h.block k hk hn)⟩
theorem ownsRow_onlyB {w w' : World} {b base : Nat} {e : TypeId} {size : Nat} {v : Value} {n : Nat} {xs : List Value} (h : w.ownsRow base e size v n xs) (ho : OnlyB b w w') (hb : b < base) : w'.ownsRow base e size v n xs := by
  obtain ⟨hl, h0 | ⟨g, cap, cur, hv, h1, hh, h2⟩⟩ := h
  · exact ⟨hl, .inl h0⟩
  · refine ⟨hl, .inr ⟨g, cap, cur, hv, h1, ?_, h2⟩⟩
    rw [ho.block g ?_ (by omega)]
    · exact hh
    · rcases Nat.lt_or_ge g w.heap.size with k | k
      · exact k
      · rw [Array.getElem?_eq_none k] at hh; cases hh
theorem Tryd.infoByte : (Tryd.prog.info? 5).map (fun i => (i.zero, i.size, i.bytes)) = some (some (.int .u8 0), 1, 1) := by kernel_rfl
set_option maxRecDepth 100000 in
set_option maxHeartbeats 1000000 in
/-- (*l00Src).blob -/
theorem blob_any (n : Nat) (hn : 1 ≤ n) (hn' : n ≤ 100000) (b : Nat) (a : Option Addr) (len cap at_ seed : Nat) (z : Nat → Nat) (hz : ∀ i, z i < 256) (hat : at_ ≤ 10000000) (hs : seed < 2147483648) (hl : len ≤ maxLen) (hsep : ∀ x, 0 < len → a = some x → x.block ≠ b) (w : World) (h : Src w b a len cap at_ seed) (hc : Code8 w a len z) :
    Calls Tryd.prog 37 #[.pointer (some ⟨b, 0, none⟩), .int .i64 (n : Int)] w fun e w' => e = .returned (.string (kstr (byteK len z at_ seed) 0 n)) ∧ Src w' b a len cap (at_ + n) (seedK len z at_ seed n) ∧ OnlyB b w w' := by
  have NX : Hid (∀ (k : Nat) (w : World), k < n → Src w b a len cap (at_ + k) (seedK len z at_ seed k) → Code8 w a len z → Calls Tryd.prog 75 #[.pointer (some ⟨b, 0, none⟩), .int .i64 256] w fun e w' => e = .returned (.int .i64 ((byteK len z at_ seed k : Nat) : Int)) ∧ Src w' b a len cap (at_ + k + 1) (seedK len z at_ seed (k + 1)) ∧ OnlyB b w w') := fun k w hk h hc =>
    (next_any 256 (by omega) (by omega) b a len cap (at_ + k) (seedK len z at_ seed k) z hz (by omega) (seedK_lt hz hs k) hl hsep w h hc).mono fun e w' ⟨he, hh⟩ => ⟨by rw [he, Nat.mod_eq_of_lt (show (drawB len z (at_ + k) (seedK len z at_ seed k)).1 < 256 from byteK_lt hz hs k)]; rfl, hh⟩
  have LB : Hid (∀ k, byteK len z at_ seed k < 256) := byteK_lt hz hs
  have H : Hid (Src w b a len cap at_ seed) := h
  have HC : Hid (Code8 w a len z) := hc
  have HSEP : Hid (∀ x, 0 < len → a = some x → x.block ≠ b) := hsep
  have hbl : b < w.heap.size := h.lt
  have S0 : Hid (seedK len z at_ seed 0 = seed) := rfl
  clear h hc hsep hz
  generalize byteK len z at_ seed = BK at *
  generalize seedK len z at_ seed = SK at *
  obtain ⟨i0, hi, hz0, hz1, hz2⟩ := info_parts Tryd.infoByte
  have HI : Hid (Tryd.prog.info? 5 = some i0 ∧ i0.zero = some (.int .u8 0) ∧ i0.size = 1 ∧ i0.bytes = 1) := ⟨hi, hz0, hz1, hz2⟩
  clear hi hz0 hz1 hz2
  go_enter Tryd.func37, Tryd.ntmps37
  go_wp2
  go_loopw [5, 6] (fun v i wr => ∃ k : Nat, k ≤ n ∧ i = .int .i64 k ∧ wr.ownsRow w.heap.size 5 1 v k ((List.range k).map fun j => .int .u8 (BK j : Nat)) ∧ Src wr b a len cap (at_ + k) (SK k) ∧ OnlyB b w wr) (fun _ i _ => n - (intOf i).toNat)
  case atStart =>
    refine ⟨0, by omega, rfl, ?_, ?_, (OnlyB.refl b w).below ((Below.refl _ _).alloc (Nat.le_refl _) _)⟩
    · exact ⟨rfl, .inr ⟨w.heap.size, 0, #[], rfl, Nat.le_refl _, Deep.blk_alloc_new _ _, Nat.le_refl _, by simp [maxLen], rfl, rfl⟩⟩
    · rw [S0.out]; exact H.out.below ((Below.refl _ _).alloc (Nat.le_refl _) _)
  case round =>
    obtain ⟨k, hk, rfl, hown, hsr, ho⟩ := hrel
    have HO : Hid (wr.ownsRow w.heap.size 5 1 u5 k ((List.range k).map fun j => .int .u8 (BK j : Nat))) := hown
    have HS : Hid (Src wr b a len cap (at_ + k) (SK k)) := hsr
    have HW : Hid (OnlyB b w wr) := ho
    have HCr : Hid (Code8 wr a len z) := HC.out.onlyB ho HSEP.out
    clear hown hsr ho
    by_cases hlt : k < n
    · have x1 : (k : Int) < (n : Int) := by omega
      go_wp2_with fail
      refine (NX.out k _ hlt HS.out HCr.out).mono ?_
      rintro e w1 ⟨rfl, hs1, ho1⟩
      have HO1 : Hid (w1.ownsRow w.heap.size 5 1 u5 k ((List.range k).map fun j => .int .u8 (BK j : Nat))) := ownsRow_onlyB HO.out ho1 hbl
      have HS1 : Hid (Src w1 b a len cap (at_ + k + 1) (SK (k + 1))) := hs1
      have HW1 : Hid (OnlyB b w w1) := HW.out.trans ho1
      have hsz := HW1.out.size
      have lx := LB.out k
      have y0 : IntKind.u8.wrap (BK k : Int) = (BK k : Int) := u8in _ lx
      clear hs1 ho1 HO HS HW HCr
      generalize hX : BK k = X at *
      have HX : Hid (BK k = X) := hX
      clear hX
      go_wp2_with (at_builtin; refine wpList_append_own _ rfl _ _ 22 rfl w.heap.size 5 i0 (.int .u8 0) 1 1 Tryd.underlying22 HI.out.1 HI.out.2.1 HI.out.2.2.1 HI.out.2.2.2 rfl (by decide) u5 k _ rfl (HO1.out.alloc _) ⟨w1.heap.size, 0, none⟩ 1 1 [.int .u8 (X : Nat)] rfl rfl (one_newK _ _ _) (one_oneK _ rfl) (by unfold maxLen; omega) (by omega) (by simp; omega) ?_)
      intro v' w2 hown' hgrow _
      have BG : Below w.heap.size w1 w2 := ((Below.refl w.heap.size w1).alloc hsz _).grown hgrow (by simp; omega) (fun b hb => (HO1.out.lt b hb).1)
      have HO2 : Hid (w2.ownsRow w.heap.size 5 1 v' (k + 1) ((List.range (k + 1)).map fun j => .int .u8 (BK j : Nat))) := by
        rw [List.range_succ, List.map_append]
        have e := HX.out
        subst e
        exact hown'
      have HW2 : Hid (OnlyB b w w2) := HW1.out.belowAt BG
      have hb2 := BG.block b hbl
      have HS2 : Hid (Src w2 b a len cap (at_ + (k + 1)) (SK (k + 1))) :=
        ⟨by rw [World.cell?_of_block (w := w1) hb2]; exact HS1.out.code, by rw [World.cell?_of_block (w := w1) hb2]; exact HS1.out.at1, by rw [World.cell?_of_block (w := w1) hb2]; exact HS1.out.seed2, by rw [World.frozen?_of_block (w := w1) hb2]; exact HS1.out.free1, by rw [World.frozen?_of_block (w := w1) hb2]; exact HS1.out.free2⟩
      clear hown' hgrow HO1 HS1 HW1 BG hb2
      go_wp2
      go_roundw
      case rel => exact ⟨k + 1, by omega, by go_num, HO2.out, HS2.out, HW2.out⟩
      case measure => simp [intOf]; omega
    · obtain rfl : k = n := by omega
      obtain ⟨g, cap', hg1, hg2, rfl, hcell⟩ := owned_open HO.out (by omega)
      have hcv : (convert 22 9 (.slice (some ⟨g, 0, none⟩) k cap')).run Tryd.prog wr = .ok (.string (kstr BK 0 k)) wr := by
        refine run_convert_bytes_arg wr 22 5 Tryd.underlying22 Tryd.underlying5 g 0 k cap' ((List.range k).map fun i => ((BK (0 + i) : Nat) : Int)) (by simp) (fun i hi => ?_) 9 Tryd.underlying9
        rw [Nat.zero_add, hcell i hi]
        simp [hi]
      have x1 : ¬ (k : Int) < (k : Int) := by omega
      clear hcell HO HCr
      go_wp2
      go_ret
      exact ⟨rfl, HS.out, HW.out⟩
theorem source_any (a : Option Addr) (len cap : Nat) (hl : len ≤ maxLen) (w : World) :
    Calls Tryd.prog 36 #[.slice a len cap] w fun e w' => e = .returned (.pointer (some ⟨w.heap.size, 0, none⟩)) ∧ Src w' w.heap.size a len cap 0 (len % 1000) ∧ Below w.heap.size w w' := by
  have hl' : (len : Int) ≤ 9223372036854775807 := by unfold maxLen at hl; omega
  have em : (len : Int) % 1000 = ((len % 1000 : Nat) : Int) := by omega
  have et : (len : Int).tmod 1000 = ((len % 1000 : Nat) : Int) := (Int.ofNat_tmod len 1000).symm
  generalize len % 1000 = M at *
  go_enter Tryd.func36, Tryd.ntmps36
  go_wp2
  go_ret
  refine ⟨rfl, ⟨?_, ?_, ?_, ?_, ?_⟩, (Below.refl _ _).alloc (Nat.le_refl _) _⟩
  · simp
  · simp
  · simp
  · simp
  · simp
/-- spec.BlobOf: n bytes drawn from a code. -/
theorem blobOf_any (n : Nat) (hn : 1 ≤ n) (hn' : n ≤ 100000) (a : Option Addr) (len cap : Nat) (z : Nat → Nat) (hz : ∀ i, z i < 256) (hl : len ≤ maxLen) (w : World) (hc : Code8 w a len z) :
    Calls Tryd.prog 8 #[.slice a len cap, .int .i64 (n : Int)] w fun e w' => e = .returned (.string (kstr (byteK len z 0 (len % 1000)) 0 n)) ∧ Below w.heap.size w w' := by
  have SO : Hid (∀ w : World, Calls Tryd.prog 36 #[.slice a len cap] w fun e w' => e = .returned (.pointer (some ⟨w.heap.size, 0, none⟩)) ∧ Src w' w.heap.size a len cap 0 (len % 1000) ∧ Below w.heap.size w w') := source_any a len cap hl
  have BL : Hid (∀ (b : Nat) (w : World), (∀ x, 0 < len → a = some x → x.block ≠ b) → Src w b a len cap 0 (len % 1000) → Code8 w a len z → Calls Tryd.prog 37 #[.pointer (some ⟨b, 0, none⟩), .int .i64 (n : Int)] w fun e w' => e = .returned (.string (kstr (byteK len z 0 (len % 1000)) 0 n)) ∧ Src w' b a len cap (0 + n) (seedK len z 0 (len % 1000) n) ∧ OnlyB b w w') := fun b w h1 h2 h3 => blob_any n hn hn' b a len cap 0 (len % 1000) z hz (by omega) (by have := Nat.mod_lt len (show 0 < 1000 by omega); omega) hl h1 w h2 h3
  have HC : Hid (Code8 w a len z) := hc
  have HSEP : Hid (∀ x, 0 < len → a = some x → x.block < w.heap.size) := fun x h0 hx => by
    obtain ⟨cb, off, ha, hh⟩ := hc 0 h0
    rw [ha] at hx
    cases hx
    exact strBlock hh
  clear hc hz
  generalize kstr (byteK len z 0 (len % 1000)) 0 n = RS at *
  go_enter Tryd.func8, Tryd.ntmps8
  go_wp2_with fail
  refine (SO.out _).mono ?_
  rintro e w1 ⟨rfl, hs1, hb1⟩
  have HS1 : Hid (Src w1 w.heap.size a len cap 0 (len % 1000)) := hs1
  have HB1 : Hid (Below w.heap.size w w1) := hb1
  have HC1 : Hid (Code8 w1 a len z) := HC.out.below hb1
  clear hs1 hb1
  go_wp2_with fail
  refine (BL.out _ _ (fun x h0 hx => by have := HSEP.out x h0 hx; omega) HS1.out HC1.out).mono ?_
  rintro e w2 ⟨rfl, hs2, ho2⟩
  have HB2 : Hid (Below w.heap.size w w2) := HB1.out.trans (ho2.toBelow (Nat.le_refl _) HB1.out.size)
  clear hs2 ho2
  go_wp2
  go_ret
  exact ⟨rfl, HB2.out⟩
end Go.Proofs.YthfnbbjjiipcpaaDoor

/-
  A law of no program: 'append(s, make([]byte, k)...)' at a row of the call's own.
-/
namespace Go.Proofs.YthfnbbjjiipcpaaDoor
open Go.ChangeShapes Go.WideShapes Go.ChangeAt Go.RowKit
theorem zeroCells_bv (k : Nat) : Builtin.zeroCells (Value.int .u8 0).cells k = (bv k (fun _ => 0)).toArray := by
  apply Array.ext
  · rw [size_zeroCells]; show k * 1 = (bv k (fun _ => 0)).toArray.size; rw [List.size_toArray, bv_length]; omega
  · intro i h1 h2
    have hi : i < k := by rw [List.size_toArray, bv_length] at h2; exact h2
    simp [Builtin.zeroCells, bv, Value.cells, Nat.mod_one]
theorem run_own_zeros {P : Program} (w : World) (base : Nat) (t tn ty e : TypeId) (i : TypeInfo) (ht : P.underlying t = some (.slice e)) (htn : P.underlying tn = some (.int .i64)) (hi : P.info? e = some i) (hz : i.zero = some (.int .u8 0)) (hs : i.size = 1) (hby : i.bytes = 1)
    (g n cap k : Nat) (xs : List Value) (hown : w.ownsRow base e 1 (.slice (some ⟨g, 0, none⟩) n cap) n xs) (hn : n ≤ 1000) (hk : k ≤ 1000) (hbase : base ≤ w.heap.size) :
    ∃ v' w', (Builtin.append_ #[t, tn] ty #[.slice (some ⟨g, 0, none⟩) n cap, .int .i64 (k : Int)]).run P w = .ok v' w' ∧ w'.ownsRow base e 1 v' (n + k) (xs ++ bv k (fun _ => 0)) ∧ w.grownBy w' (some g) ∧ v' ≠ .slice none 0 0 := by
  have hlen : (xs ++ bv k (fun _ => 0)).length = (n + k) * 1 := by rw [List.length_append, hown.1, bv_length]; omega
  have hxl : xs.length = n := by have := hown.1; omega
  rcases hown.2 with ⟨h, _⟩ | ⟨g', cap', cur, he, hbg, hg, hnc, hcm, hcs, htake⟩
  · cases h
  · cases he
    have hw : IntKind.i64.wrap (k : Int) = k := by rw [IntKind.wrap_i64]; omega
    have hneg : ¬ ((k : Int) < 0) := by omega
    have h48i : ¬ (281474976710656 < (k : Int)) := by omega
    by_cases hroom : n + k ≤ cap
    · have hst := run_storeCells_at P g n e (bv k (fun _ => 0)) 0 cur w hg (by rw [bv_length]; omega) (fun v hv => bv_one _ _ v hv)
      simp only [Nat.add_zero, bv_length] at hst
      refine ⟨.slice (some ⟨g, 0, none⟩) (n + k) cap, w.setRow g (cur.toList.take n ++ bv k (fun _ => 0) ++ cur.toList.drop (n + k)).toArray, ?_, ⟨hlen, .inr ⟨g, cap, _, rfl, hbg, setRow_heap w g cur _ e _ hg, hroom, hcm, ?_, ?_⟩⟩, ⟨rfl, rfl, rfl, by simp, fun j _ hj => setRow_other w g j _ (fun e => hj (by simp [e]))⟩, by intro h; cases h⟩
      · rcases Nat.eq_zero_or_pos k with rfl | hpos
        · have h0 : w.setRow g (cur.toList.take n ++ bv 0 (fun _ => 0) ++ cur.toList.drop (n + 0)).toArray = w := by
            rw [bv_zero]; simp only [List.append_nil, Nat.add_zero, List.take_append_drop, Array.toArray_toList]
            exact setRow_self w g cur e (0, 0) hg
          rw [h0]
          have hw0 : IntKind.i64.wrap 0 = 0 := rfl
          simp [Builtin.append_, run_underlying ht, run_underlying htn, sizeOf, typeInfo, hi, asInt, asIntOf, storeCells, hnc, hw0]
        · have hk0 : k ≠ 0 := by omega
          simp [Builtin.append_, run_underlying ht, run_underlying htn, sizeOf, typeInfo, zeroValue, hi, hz, hs, hby, asInt, asIntOf, hw, hneg, h48i, hk0, hroom, zeroCells_bv, Addr.add_lit, hst]
      · simp only [List.size_toArray, List.length_append, List.length_take, List.length_drop, Array.length_toList, bv_length]
        omega
      · have ht' : cur.toList.take n = xs := by simpa using htake
        rw [ht', ← hlen]
        exact List.take_left
    · have holds : ∀ j u, xs[j]? = some u → w.cell? ((⟨g, 0, none⟩ : Addr).add j) = some u := hown.cells (g := g) rfl
      have hold : (Builtin.firstCells i.size n (.slice (some ⟨g, 0, none⟩) n cap)).run P w.drew = .ok xs.toArray w.drew := run_firstCells_some w.drew i.size n ⟨g, 0, none⟩ n cap xs (by rw [hs]; exact hown.1) (fun j v hj => holds j v hj)
      have hr := Lib.run_append_grow_zeros w t tn ty e i (.int .u8 0) .i64 .i64 ht htn hi hz (some ⟨g, 0, none⟩) n cap xs hold k (by omega) (by omega) (by omega) (by omega) (by rw [hby]; omega) (by rw [hby]; exact growslice_fits (by omega) (by omega))
      have hge := grownCap_ge w (n + k) cap e
      have hle : grownCap w (n + k) cap e ≤ maxLen := grownCap_le_maxLen w (n + k) cap e (by unfold maxLen; omega)
      refine ⟨_, _, hr, ⟨hlen, .inr ⟨w.heap.size, _, _, rfl, hbase, heap_alloc_new w.drew _, hge, hle, ?_, ?_⟩⟩, ⟨rfl, rfl, rfl, by simp, fun j hj _ => Below.heap_alloc w.drew _ j hj⟩, by intro h; cases h⟩
      · simp only [Array.size_append, List.size_toArray, size_zeroCells, hxl]
        show n + k * 1 + (grownCap w (n + k) cap e - (n + k)) * 1 = _
        omega
      · rw [zeroCells_bv]
        simp only [Array.toList_append, List.append_assoc]
        rw [← List.append_assoc, ← hlen]
        exact List.take_left
end Go.Proofs.YthfnbbjjiipcpaaDoor

/-
  The model's draw of a text: what PlainOf answers, as far as the laws need it: some bytes, few, of the call's own.
-/
namespace Go.Proofs.YthfnbbjjiipcpaaDoor
open Go.ChangeShapes Go.WideShapes Go.ChangeAt Go.RowKit
/-- A source that has drawn at most A times. -/
def SrcA (w : World) (b : Nat) (a : Option Addr) (len cap A : Nat) : Prop := ∃ at_ seed, at_ ≤ A ∧ seed < 2147483648 ∧ Src w b a len cap at_ seed
theorem SrcA.lt {w : World} {b : Nat} {a : Option Addr} {len cap A : Nat} (h : SrcA w b a len cap A) : b < w.heap.size := by
  obtain ⟨_, _, _, _, h⟩ := h
  exact h.lt
theorem SrcA.mono {w : World} {b : Nat} {a : Option Addr} {len cap A A' : Nat} (h : SrcA w b a len cap A) (hA : A ≤ A') : SrcA w b a len cap A' := by
  obtain ⟨x, y, h1, h2, h3⟩ := h
  exact ⟨x, y, Nat.le_trans h1 hA, h2, h3⟩
theorem SrcA.below {w w' : World} {b : Nat} {a : Option Addr} {len cap A : Nat} (h : SrcA w b a len cap A) (hb : Below w.heap.size w w') : SrcA w' b a len cap A := by
  obtain ⟨x, y, h1, h2, h3⟩ := h
  exact ⟨x, y, h1, h2, h3.below hb⟩
theorem SrcA.belowAt {w w' : World} {B b : Nat} {a : Option Addr} {len cap A : Nat} (h : SrcA w b a len cap A) (hb : Below B w w') (hB : b < B) : SrcA w' b a len cap A := by
  obtain ⟨x, y, h1, h2, hs⟩ := h
  have hk := hb.block b hB
  exact ⟨x, y, h1, h2, by rw [World.cell?_of_block (w := w) hk]; exact hs.code, by rw [World.cell?_of_block (w := w) hk]; exact hs.at1, by rw [World.cell?_of_block (w := w) hk]; exact hs.seed2, by rw [World.frozen?_of_block (w := w) hk]; exact hs.free1, by rw [World.frozen?_of_block (w := w) hk]; exact hs.free2⟩
theorem next_ex (n : Nat) (hn : 2 ≤ n) (hn' : n ≤ 256) (b : Nat) (a : Option Addr) (len cap A : Nat) (z : Nat → Nat) (hz : ∀ i, z i < 256) (hA : A ≤ 100000) (hl : len ≤ maxLen) (hsep : ∀ x, 0 < len → a = some x → x.block ≠ b) (w : World) (h : SrcA w b a len cap A) (hc : Code8 w a len z) :
    Calls Tryd.prog 75 #[.pointer (some ⟨b, 0, none⟩), .int .i64 (n : Int)] w fun e w' => (∃ r : Nat, r < n ∧ e = .returned (.int .i64 (r : Int))) ∧ SrcA w' b a len cap (A + 1) ∧ OnlyB b w w' := by
  obtain ⟨x, y, h1, h2, h3⟩ := h
  refine (next_any n hn hn' b a len cap x y z hz (by omega) h2 hl hsep w h3 hc).mono ?_
  rintro e w' ⟨he, hs, ho⟩
  exact ⟨⟨_, Nat.mod_lt _ (by omega), he⟩, ⟨x + 1, _, by omega, (drawB_lt hz h2).2, hs⟩, ho⟩
theorem bv_ext (k r : Nat) (f : Nat → Nat) : bv k f ++ [.int .u8 (r : Nat)] = bv (k + 1) (fun j => if j = k then r else f j) := by
  have e := bv_snoc k (fun j => if j = k then r else f j)
  rw [if_pos rfl, bv_congr (g := f) (fun i hi => if_neg (by omega))] at e
  exact e
theorem OnlyB.belowS {b : Nat} {w w' w'' : World} {B : Nat} (h : OnlyB b w w') (hb : Below B w' w'') (hB : w.heap.size ≤ B) : OnlyB b w w'' :=
  ⟨hb.os.trans h.os, hb.tape.trans h.tape, hb.output.trans h.output, Nat.le_trans h.size hb.size, fun k hk hn => (hb.block k (by omega)).trans (h.block k hk hn)⟩
/-- Some bytes, at most so many, at a row of the call's own. -/
def SomeOwn (B : Nat) (w' : World) (e : Ending) (most : Nat) : Prop := ∃ (m : Nat) (f : Nat → Nat) (g c : Nat), m ≤ most ∧ (∀ i, f i < 256) ∧ e = .returned (.slice (some ⟨g, 0, none⟩) m c) ∧ w'.ownsRow B 5 1 (.slice (some ⟨g, 0, none⟩) m c) m (bv m f)
set_option maxRecDepth 100000 in
set_option maxHeartbeats 1000000 in
theorem bytes_ex (b : Nat) (a : Option Addr) (len cap A : Nat) (z : Nat → Nat) (hz : ∀ i, z i < 256) (hA : A ≤ 1000) (hl : len ≤ maxLen) (hsep : ∀ x, 0 < len → a = some x → x.block ≠ b) (w : World) (h : SrcA w b a len cap A) (hc : Code8 w a len z) :
    Calls Tryd.prog 42 #[.pointer (some ⟨b, 0, none⟩), .int .i64 30] w fun e w' => SomeOwn w.heap.size w' e 30 ∧ SrcA w' b a len cap (A + 40) ∧ OnlyB b w w' := by
  obtain ⟨i0, hi⟩ := info_parts Tryd.info8
  have HI : Hid (Tryd.prog.info? 5 = some i0 ∧ i0.zero = some (.int .u8 0) ∧ i0.size = 1 ∧ i0.bytes = 1) := hi
  have NX : Hid (∀ (n A : Nat) (w : World), 2 ≤ n → n ≤ 256 → A ≤ 100000 → SrcA w b a len cap A → Code8 w a len z → Calls Tryd.prog 75 #[.pointer (some ⟨b, 0, none⟩), .int .i64 (n : Int)] w fun e w' => (∃ r : Nat, r < n ∧ e = .returned (.int .i64 (r : Int))) ∧ SrcA w' b a len cap (A + 1) ∧ OnlyB b w w') := fun n A w h1 h2 h3 h4 h5 => next_ex n h1 h2 b a len cap A z hz h3 hl hsep w h4 h5
  have HC : Hid (Code8 w a len z) := hc
  have HSEP : Hid (∀ x, 0 < len → a = some x → x.block ≠ b) := hsep
  have hbl : b < w.heap.size := h.lt
  have H0 : Hid (SrcA (w.alloc (.cells #[] 5)) b a len cap A) := h.below ((Below.refl _ _).alloc (Nat.le_refl _) _)
  have HC0 : Hid (Code8 (w.alloc (.cells #[] 5)) a len z) := hc.below ((Below.refl _ _).alloc (Nat.le_refl _) _)
  have HO0 : Hid ((w.alloc (.cells #[] 5)).ownsRow w.heap.size 5 1 (.slice (some ⟨w.heap.size, 0, none⟩) 0 0) 0 (bv 0 (fun _ => 0))) := World.ownsRow_made w #[] 0 (Nat.le_refl _) (Nat.zero_le _) (by simp)
  have HB0 : Hid (OnlyB b w (w.alloc (.cells #[] 5))) := (OnlyB.refl b w).below ((Below.refl _ _).alloc (Nat.le_refl _) _)
  have NX31 : Hid (∀ w : World, SrcA w b a len cap A → Code8 w a len z → Calls Tryd.prog 75 #[.pointer (some ⟨b, 0, none⟩), .int .i64 31] w fun e w' => (∃ r : Nat, r < 31 ∧ e = .returned (.int .i64 (r : Int))) ∧ SrcA w' b a len cap (A + 1) ∧ OnlyB b w w') := fun w h1 h2 => NX.out 31 A w (by omega) (by omega) (by omega) h1 h2
  clear h hc hsep hz hi
  go_enter Tryd.func42, Tryd.ntmps42
  go_wp2_with fail
  refine (NX31.out _ H0.out HC0.out).mono ?_
  rintro e w1 ⟨⟨m, hm, rfl⟩, hs1, ho1⟩
  have HO1 : Hid (w1.ownsRow w.heap.size 5 1 (.slice (some ⟨w.heap.size, 0, none⟩) 0 0) 0 (bv 0 (fun _ => 0))) := ownsRow_onlyB HO0.out ho1 hbl
  have HS1 : Hid (SrcA w1 b a len cap (A + 1)) := hs1
  have HB1 : Hid (OnlyB b w w1) := HB0.out.trans ho1
  clear hs1 ho1 HO0 HB0 H0 HC0 NX31
  go_wp2_with fail
  go_loopw [5, 6] (fun v i wr => ∃ (k g c : Nat) (f : Nat → Nat), k ≤ m ∧ i = .int .i64 ((m : Int) - (k : Int)) ∧ v = .slice (some ⟨g, 0, none⟩) k c ∧ (∀ i, f i < 256) ∧ wr.ownsRow w.heap.size 5 1 (.slice (some ⟨g, 0, none⟩) k c) k (bv k f) ∧ SrcA wr b a len cap (A + 1 + k) ∧ OnlyB b w wr) (fun _ i _ => (intOf i).toNat)
  case atStart => exact ⟨0, w.heap.size, 0, fun _ => 0, by omega, numEq8 (by omega), rfl, fun _ => by show (0 : Nat) < 256; omega, HO1.out, HS1.out, HB1.out⟩
  case round =>
    clear HO1 HS1 HB1
    obtain ⟨k, g, c, f, hk, rfl, rfl, hf, hown, hsr, ho⟩ := hrel
    have HF : Hid (∀ i, f i < 256) := hf
    have HO : Hid (wr.ownsRow w.heap.size 5 1 (.slice (some ⟨g, 0, none⟩) k c) k (bv k f)) := hown
    have HS : Hid (SrcA wr b a len cap (A + 1 + k)) := hsr
    have HW : Hid (OnlyB b w wr) := ho
    have HCr : Hid (Code8 wr a len z) := HC.out.onlyB ho HSEP.out
    clear hown hsr ho hf
    by_cases hlt : k < m
    · have x1 : (0 : Int) < (m : Int) - (k : Int) := by omega
      have NXk : Hid (∀ w : World, SrcA w b a len cap (A + 1 + k) → Code8 w a len z → Calls Tryd.prog 75 #[.pointer (some ⟨b, 0, none⟩), .int .i64 256] w fun e w' => (∃ r : Nat, r < 256 ∧ e = .returned (.int .i64 (r : Int))) ∧ SrcA w' b a len cap (A + 1 + k + 1) ∧ OnlyB b w w') := fun w h1 h2 => NX.out 256 (A + 1 + k) w (by omega) (by omega) (by omega) h1 h2
      go_wp2_with fail
      refine (NXk.out _ HS.out HCr.out).mono ?_
      rintro e w1 ⟨⟨X, hX, rfl⟩, hs1, ho1⟩
      have HO1 : Hid (w1.ownsRow w.heap.size 5 1 (.slice (some ⟨g, 0, none⟩) k c) k (bv k f)) := ownsRow_onlyB HO.out ho1 hbl
      have HS1 : Hid (SrcA w1 b a len cap (A + 1 + k + 1)) := hs1
      have HW1 : Hid (OnlyB b w w1) := HW.out.trans ho1
      have hsz := HW1.out.size
      have y0 : (X : Int) % 256 = (X : Int) := by omega
      clear hs1 ho1 HO HS HW HCr NXk
      go_wp2_with (at_builtin; refine wpList_append_own _ rfl _ _ 22 rfl w.heap.size 5 i0 (.int .u8 0) 1 1 Tryd.underlying22 HI.out.1 HI.out.2.1 HI.out.2.2.1 HI.out.2.2.2 rfl (by decide) (.slice (some ⟨g, 0, none⟩) k c) k _ rfl (HO1.out.alloc _) ⟨w1.heap.size, 0, none⟩ 1 1 [.int .u8 (X : Nat)] rfl rfl (one_new8 _ _ _) (one_one8 _) (by unfold maxLen; omega) (by omega) (by simp; omega) ?_)
      intro v' w2 hown' hgrow hnil
      have BG : Below w.heap.size w1 w2 := ((Below.refl w.heap.size w1).alloc hsz _).grown hgrow (by simp; omega) (fun b hb => (HO1.out.lt b hb).1)
      rw [bv_ext] at hown'
      obtain ⟨g2, c2, ⟨hg2, hc2⟩, rfl, -⟩ := own8_of_own hown' hnil
      have HO2 : Hid (w2.ownsRow w.heap.size 5 1 (.slice (some ⟨g2, 0, none⟩) (k + 1) c2) (k + 1) (bv (k + 1) (fun j => if j = k then X else f j))) := hown'
      have HF2 : Hid (∀ i, (fun j => if j = k then X else f j) i < 256) := fun i => by
        show (if i = k then X else f i) < 256
        split
        · exact hX
        · exact HF.out i
      have HW2 : Hid (OnlyB b w w2) := HW1.out.belowS BG (Nat.le_refl _)
      have HS2 : Hid (SrcA w2 b a len cap (A + 1 + (k + 1))) := HS1.out.belowAt BG hbl
      have HK : Hid ((m : Int) - (k : Int) - 1 = (m : Int) - ((k + 1 : Nat) : Int)) := by show (m : Int) - (k : Int) - 1 = _; omega
      clear hown' hgrow hnil HO1 HS1 HW1 BG
      generalize (fun j => if j = k then X else f j) = f2 at *
      go_wp2
      go_roundw
      case rel => exact ⟨k + 1, g2, c2, f2, by omega, numEq8 HK.out, rfl, HF2.out, HO2.out, HS2.out, HW2.out⟩
      case measure => simp [intOf]; omega
    · have x1 : ¬ (0 : Int) < (m : Int) - (k : Int) := by omega
      have HS2 : Hid (SrcA wr b a len cap (A + 40)) := HS.out.mono (by omega)
      go_wp2
      go_ret
      exact ⟨⟨k, f, g, c, by omega, HF.out, rfl, HO.out⟩, HS2.out, HW.out⟩
set_option maxRecDepth 100000 in
set_option maxHeartbeats 1000000 in
theorem plain_ex (b : Nat) (a : Option Addr) (len cap A : Nat) (z : Nat → Nat) (hz : ∀ i, z i < 256) (hA : A ≤ 1000) (hl : len ≤ maxLen) (hsep : ∀ x, 0 < len → a = some x → x.block ≠ b) (w : World) (h : SrcA w b a len cap A) (hc : Code8 w a len z) :
    Calls Tryd.prog 43 #[.pointer (some ⟨b, 0, none⟩)] w fun e w' => SomeOwn w.heap.size w' e 80 ∧ OnlyB b w w' := by
  obtain ⟨i0, hi⟩ := info_parts Tryd.info8
  have BY : Hid (∀ w : World, SrcA w b a len cap A → Code8 w a len z → Calls Tryd.prog 42 #[.pointer (some ⟨b, 0, none⟩), .int .i64 30] w fun e w' => SomeOwn w.heap.size w' e 30 ∧ SrcA w' b a len cap (A + 40) ∧ OnlyB b w w') := fun w h1 h2 => bytes_ex b a len cap A z hz hA hl hsep w h1 h2
  have NX : Hid (∀ w : World, SrcA w b a len cap (A + 40) → Code8 w a len z → Calls Tryd.prog 75 #[.pointer (some ⟨b, 0, none⟩), .int .i64 5] w fun e w' => (∃ r : Nat, r < 5 ∧ e = .returned (.int .i64 (r : Int))) ∧ SrcA w' b a len cap (A + 40 + 1) ∧ OnlyB b w w') := fun w h1 h2 => next_ex 5 (by omega) (by omega) b a len cap (A + 40) z hz (by omega) hl hsep w h1 h2
  have HI : Hid (Tryd.prog.info? 5 = some i0 ∧ i0.zero = some (.int .u8 0) ∧ i0.size = 1 ∧ i0.bytes = 1) := hi
  have H : Hid (SrcA w b a len cap A) := h
  have HC : Hid (Code8 w a len z) := hc
  have HSEP : Hid (∀ x, 0 < len → a = some x → x.block ≠ b) := hsep
  have hbl : b < w.heap.size := h.lt
  clear h hc hsep hz hi
  go_enter Tryd.func43, Tryd.ntmps43
  go_wp2_with fail
  refine (BY.out _ H.out HC.out).mono ?_
  rintro e w1 ⟨⟨m, f, g, c, hm, hf, rfl, hown⟩, hs1, ho1⟩
  have hg : w.heap.size ≤ g := (hown.lt g rfl).1
  have hgl : g < w1.heap.size := (hown.lt g rfl).2
  have L5 : Below w1.heap.size w1 (w1.alloc (.cells #[.int .i64 0, .int .i64 0, .int .i64 16, .int .i64 32, .int .i64 50] 3)) := (Below.refl _ _).alloc (Nat.le_refl _) _
  have HO2 : Hid ((w1.alloc (.cells #[.int .i64 0, .int .i64 0, .int .i64 16, .int .i64 32, .int .i64 50] 3)).ownsRow w.heap.size 5 1 (.slice (some ⟨g, 0, none⟩) m c) m (bv m f)) := ownsRow_below8 hown L5
  have HS2 : Hid (SrcA (w1.alloc (.cells #[.int .i64 0, .int .i64 0, .int .i64 16, .int .i64 32, .int .i64 50] 3)) b a len cap (A + 40)) := hs1.below L5
  have HB2 : Hid (OnlyB b w (w1.alloc (.cells #[.int .i64 0, .int .i64 0, .int .i64 16, .int .i64 32, .int .i64 50] 3))) := ho1.below L5
  have HC2 : Hid (Code8 (w1.alloc (.cells #[.int .i64 0, .int .i64 0, .int .i64 16, .int .i64 32, .int .i64 50] 3)) a len z) := HC.out.onlyB HB2.out HSEP.out
  have HK2 : Hid ((w1.alloc (.cells #[.int .i64 0, .int .i64 0, .int .i64 16, .int .i64 32, .int .i64 50] 3)).heap[w1.heap.size]? = some (.cells #[.int .i64 0, .int .i64 0, .int .i64 16, .int .i64 32, .int .i64 50] 3 (0, 0))) := Deep.blk_alloc_new _ _
  have hs12 : w1.heap.size < (w1.alloc (.cells #[.int .i64 0, .int .i64 0, .int .i64 16, .int .i64 32, .int .i64 50] 3)).heap.size := by simp
  have hbw1 : b < w1.heap.size := Nat.lt_of_lt_of_le hbl ho1.size
  have HF : Hid (∀ i, f i < 256) := hf
  clear hown hs1 ho1 L5 hf BY H
  go_wp2_with fail
  generalize w1.alloc (.cells #[.int .i64 0, .int .i64 0, .int .i64 16, .int .i64 32, .int .i64 50] 3) = w2 at *
  generalize w1.heap.size = lb at *
  refine (NX.out _ HS2.out HC2.out).mono ?_
  rintro e w3 ⟨⟨r, hr, rfl⟩, hs3, ho3⟩
  have HO3 : Hid (w3.ownsRow w.heap.size 5 1 (.slice (some ⟨g, 0, none⟩) m c) m (bv m f)) := ownsRow_onlyB HO2.out ho3 hbl
  have HB3 : Hid (OnlyB b w w3) := HB2.out.trans ho3
  have hK3 : w3.heap[lb]? = some (.cells #[.int .i64 0, .int .i64 0, .int .i64 16, .int .i64 32, .int .i64 50] 3 (0, 0)) := (ho3.block lb hs12 (by omega)).trans HK2.out
  have c0 : w3.cell? ⟨lb, 0, none⟩ = some (.int .i64 0) := by simp [World.cell?, hK3]
  have c1 : w3.cell? ⟨lb, 1, none⟩ = some (.int .i64 0) := by simp [World.cell?, hK3]
  have c2 : w3.cell? ⟨lb, 2, none⟩ = some (.int .i64 16) := by simp [World.cell?, hK3]
  have c3 : w3.cell? ⟨lb, 3, none⟩ = some (.int .i64 32) := by simp [World.cell?, hK3]
  have c4 : w3.cell? ⟨lb, 4, none⟩ = some (.int .i64 50) := by simp [World.cell?, hK3]
  have hw3 := HB3.out.size
  have AZ : Hid (∀ (k : Nat) (ty : TypeId), k ≤ 50 → ∃ v' w', (Builtin.append_ #[22, 3] ty #[.slice (some ⟨g, 0, none⟩) m c, .int .i64 (k : Int)]).run Tryd.prog w3 = .ok v' w' ∧ w'.ownsRow w.heap.size 5 1 v' (m + k) (bv m f ++ bv k (fun _ => 0)) ∧ w3.grownBy w' (some g) ∧ v' ≠ .slice none 0 0) := fun k ty hk => run_own_zeros w3 w.heap.size 22 3 ty 5 i0 Tryd.underlying22 Tryd.underlying3 HI.out.1 HI.out.2.1 HI.out.2.2.1 HI.out.2.2.2 g m c k _ HO3.out (by omega) (by omega) hw3
  have FIN : Hid (∀ (k : Nat) (v' : Value) (w' : World), k ≤ 50 → w'.ownsRow w.heap.size 5 1 v' (m + k) (bv m f ++ bv k (fun _ => 0)) → w3.grownBy w' (some g) → v' ≠ .slice none 0 0 → SomeOwn w.heap.size w' (.returned v') 80 ∧ OnlyB b w w') := fun k v' w' hk ho hgr hnil => by
    rw [bv_append] at ho
    obtain ⟨g2, c2, hg2, rfl, -⟩ := own8_of_own ho hnil
    refine ⟨⟨m + k, _, g2, c2, by omega, fun i => ?_, rfl, ho⟩, ?_⟩
    · show (if i < m then f i else 0) < 256
      split
      · exact HF.out i
      · omega
    · exact HB3.out.belowS ((Below.refl w.heap.size w3).grown hgr hw3 (fun k hk => by cases hk; exact hg)) (Nat.le_refl _)
  clear hs3 ho3 hK3 HO2 HS2 HB2 HC2 HK2 HO3 NX HC
  rcases (show r = 0 ∨ r = 1 ∨ r = 2 ∨ r = 3 ∨ r = 4 by omega) with rfl | rfl | rfl | rfl | rfl
  · obtain ⟨v', w', hrun, ho, hgr, hnil⟩ := AZ.out 0 22 (by omega)
    have R := FIN.out 0 v' w' (by omega) ho hgr hnil
    go_wp2_with (at_builtin; refine Lib.wpList_append_run _ rfl _ _ _ _ rfl _ _ rfl rfl _ _ hrun ?_)
    go_ret
    exact R
  · obtain ⟨v', w', hrun, ho, hgr, hnil⟩ := AZ.out 0 22 (by omega)
    have R := FIN.out 0 v' w' (by omega) ho hgr hnil
    go_wp2_with (at_builtin; refine Lib.wpList_append_run _ rfl _ _ _ _ rfl _ _ rfl rfl _ _ hrun ?_)
    go_ret
    exact R
  · obtain ⟨v', w', hrun, ho, hgr, hnil⟩ := AZ.out 16 22 (by omega)
    have R := FIN.out 16 v' w' (by omega) ho hgr hnil
    go_wp2_with (at_builtin; refine Lib.wpList_append_run _ rfl _ _ _ _ rfl _ _ rfl rfl _ _ hrun ?_)
    go_ret
    exact R
  · obtain ⟨v', w', hrun, ho, hgr, hnil⟩ := AZ.out 32 22 (by omega)
    have R := FIN.out 32 v' w' (by omega) ho hgr hnil
    go_wp2_with (at_builtin; refine Lib.wpList_append_run _ rfl _ _ _ _ rfl _ _ rfl rfl _ _ hrun ?_)
    go_ret
    exact R
  · obtain ⟨v', w', hrun, ho, hgr, hnil⟩ := AZ.out 50 22 (by omega)
    have R := FIN.out 50 v' w' (by omega) ho hgr hnil
    go_wp2_with (at_builtin; refine Lib.wpList_append_run _ rfl _ _ _ _ rfl _ _ rfl rfl _ _ hrun ?_)
    go_ret
    exact R
/-- spec.PlainOf -/
theorem plainOf_ex (a : Option Addr) (len cap : Nat) (z : Nat → Nat) (hz : ∀ i, z i < 256) (hl : len ≤ maxLen) (w : World) (hc : Code8 w a len z) :
    Calls Tryd.prog 13 #[.slice a len cap] w fun e w' => SomeOwn w.heap.size w' e 80 ∧ Below w.heap.size w w' := by
  have SO : Hid (∀ w : World, Calls Tryd.prog 36 #[.slice a len cap] w fun e w' => e = .returned (.pointer (some ⟨w.heap.size, 0, none⟩)) ∧ Src w' w.heap.size a len cap 0 (len % 1000) ∧ Below w.heap.size w w') := source_any a len cap hl
  have PL : Hid (∀ (b : Nat) (w : World), (∀ x, 0 < len → a = some x → x.block ≠ b) → SrcA w b a len cap 0 → Code8 w a len z → Calls Tryd.prog 43 #[.pointer (some ⟨b, 0, none⟩)] w fun e w' => SomeOwn w.heap.size w' e 80 ∧ OnlyB b w w') := fun b w h1 h2 h3 => plain_ex b a len cap 0 z hz (by omega) hl h1 w h2 h3
  have HC : Hid (Code8 w a len z) := hc
  have HSEP : Hid (∀ x, 0 < len → a = some x → x.block < w.heap.size) := hc.lt
  clear hc hz
  go_enter Tryd.func13, Tryd.ntmps13
  go_wp2_with fail
  refine (SO.out _).mono ?_
  rintro e w1 ⟨rfl, hs1, hb1⟩
  have HS1 : Hid (SrcA w1 w.heap.size a len cap 0) := ⟨0, _, Nat.le_refl _, by have := Nat.mod_lt len (show 0 < 1000 by omega); omega, hs1⟩
  have HB1 : Hid (Below w.heap.size w w1) := hb1
  have HC1 : Hid (Code8 w1 a len z) := HC.out.below hb1
  clear hs1 hb1
  go_wp2_with fail
  refine (PL.out _ _ (fun x h0 hx => by have := HSEP.out x h0 hx; omega) HS1.out HC1.out).mono ?_
  rintro e w2 ⟨⟨m, f, g, c, hm, hf, rfl, hown⟩, ho2⟩
  have HB2 : Hid (Below w.heap.size w w2) := HB1.out.trans (ho2.toBelow (Nat.le_refl _) HB1.out.size)
  have R : Hid (SomeOwn w.heap.size w2 (.returned (.slice (some ⟨g, 0, none⟩) m c)) 80) := ⟨m, f, g, c, hm, hf, rfl, own_mono hown HB1.out.size⟩
  clear ho2 hown hf hm
  go_wp2
  go_ret
  exact ⟨R.out, HB2.out⟩
end Go.Proofs.YthfnbbjjiipcpaaDoor

/-
  The model's draw of bytes: BytesOf, as far as the laws need it.
-/
namespace Go.Proofs.YthfnbbjjiipcpaaDoor
open Go.ChangeShapes Go.WideShapes Go.ChangeAt Go.RowKit
set_option maxRecDepth 100000 in
set_option maxHeartbeats 1000000 in
theorem bytes_exL (L : Nat) (hL1 : 1 ≤ L) (hL2 : L ≤ 255) (b : Nat) (a : Option Addr) (len cap A : Nat) (z : Nat → Nat) (hz : ∀ i, z i < 256) (hA : A ≤ 1000) (hl : len ≤ maxLen) (hsep : ∀ x, 0 < len → a = some x → x.block ≠ b) (w : World) (h : SrcA w b a len cap A) (hc : Code8 w a len z) :
    Calls Tryd.prog 42 #[.pointer (some ⟨b, 0, none⟩), .int .i64 (L : Int)] w fun e w' => SomeOwn w.heap.size w' e L ∧ SrcA w' b a len cap (A + (L + 10)) ∧ OnlyB b w w' := by
  obtain ⟨i0, hi⟩ := info_parts Tryd.info8
  have HI : Hid (Tryd.prog.info? 5 = some i0 ∧ i0.zero = some (.int .u8 0) ∧ i0.size = 1 ∧ i0.bytes = 1) := hi
  have NX : Hid (∀ (n A : Nat) (w : World), 2 ≤ n → n ≤ 256 → A ≤ 100000 → SrcA w b a len cap A → Code8 w a len z → Calls Tryd.prog 75 #[.pointer (some ⟨b, 0, none⟩), .int .i64 (n : Int)] w fun e w' => (∃ r : Nat, r < n ∧ e = .returned (.int .i64 (r : Int))) ∧ SrcA w' b a len cap (A + 1) ∧ OnlyB b w w') := fun n A w h1 h2 h3 h4 h5 => next_ex n h1 h2 b a len cap A z hz h3 hl hsep w h4 h5
  have HC : Hid (Code8 w a len z) := hc
  have HSEP : Hid (∀ x, 0 < len → a = some x → x.block ≠ b) := hsep
  have hbl : b < w.heap.size := h.lt
  have H0 : Hid (SrcA (w.alloc (.cells #[] 5)) b a len cap A) := h.below ((Below.refl _ _).alloc (Nat.le_refl _) _)
  have HC0 : Hid (Code8 (w.alloc (.cells #[] 5)) a len z) := hc.below ((Below.refl _ _).alloc (Nat.le_refl _) _)
  have HO0 : Hid ((w.alloc (.cells #[] 5)).ownsRow w.heap.size 5 1 (.slice (some ⟨w.heap.size, 0, none⟩) 0 0) 0 (bv 0 (fun _ => 0))) := World.ownsRow_made w #[] 0 (Nat.le_refl _) (Nat.zero_le _) (by simp)
  have HB0 : Hid (OnlyB b w (w.alloc (.cells #[] 5))) := (OnlyB.refl b w).below ((Below.refl _ _).alloc (Nat.le_refl _) _)
  have NX31 : Hid (∀ w : World, SrcA w b a len cap A → Code8 w a len z → Calls Tryd.prog 75 #[.pointer (some ⟨b, 0, none⟩), .int .i64 ((L : Int) + 1)] w fun e w' => (∃ r : Nat, r < L + 1 ∧ e = .returned (.int .i64 (r : Int))) ∧ SrcA w' b a len cap (A + 1) ∧ OnlyB b w w') := fun w h1 h2 => by
    have := NX.out (L + 1) A w (by omega) (by omega) (by omega) h1 h2
    rw [show ((L + 1 : Nat) : Int) = (L : Int) + 1 from by omega] at this
    exact this
  clear h hc hsep hz hi
  go_enter Tryd.func42, Tryd.ntmps42
  go_wp2_with fail
  refine (NX31.out _ H0.out HC0.out).mono ?_
  rintro e w1 ⟨⟨m, hm, rfl⟩, hs1, ho1⟩
  have HO1 : Hid (w1.ownsRow w.heap.size 5 1 (.slice (some ⟨w.heap.size, 0, none⟩) 0 0) 0 (bv 0 (fun _ => 0))) := ownsRow_onlyB HO0.out ho1 hbl
  have HS1 : Hid (SrcA w1 b a len cap (A + 1)) := hs1
  have HB1 : Hid (OnlyB b w w1) := HB0.out.trans ho1
  clear hs1 ho1 HO0 HB0 H0 HC0 NX31
  go_wp2_with fail
  go_loopw [5, 6] (fun v i wr => ∃ (k g c : Nat) (f : Nat → Nat), k ≤ m ∧ i = .int .i64 ((m : Int) - (k : Int)) ∧ v = .slice (some ⟨g, 0, none⟩) k c ∧ (∀ i, f i < 256) ∧ wr.ownsRow w.heap.size 5 1 (.slice (some ⟨g, 0, none⟩) k c) k (bv k f) ∧ SrcA wr b a len cap (A + 1 + k) ∧ OnlyB b w wr) (fun _ i _ => (intOf i).toNat)
  case atStart => exact ⟨0, w.heap.size, 0, fun _ => 0, by omega, numEq8 (by omega), rfl, fun _ => by show (0 : Nat) < 256; omega, HO1.out, HS1.out, HB1.out⟩
  case round =>
    clear HO1 HS1 HB1
    obtain ⟨k, g, c, f, hk, rfl, rfl, hf, hown, hsr, ho⟩ := hrel
    have HF : Hid (∀ i, f i < 256) := hf
    have HO : Hid (wr.ownsRow w.heap.size 5 1 (.slice (some ⟨g, 0, none⟩) k c) k (bv k f)) := hown
    have HS : Hid (SrcA wr b a len cap (A + 1 + k)) := hsr
    have HW : Hid (OnlyB b w wr) := ho
    have HCr : Hid (Code8 wr a len z) := HC.out.onlyB ho HSEP.out
    clear hown hsr ho hf
    by_cases hlt : k < m
    · have x1 : (0 : Int) < (m : Int) - (k : Int) := by omega
      have NXk : Hid (∀ w : World, SrcA w b a len cap (A + 1 + k) → Code8 w a len z → Calls Tryd.prog 75 #[.pointer (some ⟨b, 0, none⟩), .int .i64 256] w fun e w' => (∃ r : Nat, r < 256 ∧ e = .returned (.int .i64 (r : Int))) ∧ SrcA w' b a len cap (A + 1 + k + 1) ∧ OnlyB b w w') := fun w h1 h2 => NX.out 256 (A + 1 + k) w (by omega) (by omega) (by omega) h1 h2
      go_wp2_with fail
      refine (NXk.out _ HS.out HCr.out).mono ?_
      rintro e w1 ⟨⟨X, hX, rfl⟩, hs1, ho1⟩
      have HO1 : Hid (w1.ownsRow w.heap.size 5 1 (.slice (some ⟨g, 0, none⟩) k c) k (bv k f)) := ownsRow_onlyB HO.out ho1 hbl
      have HS1 : Hid (SrcA w1 b a len cap (A + 1 + k + 1)) := hs1
      have HW1 : Hid (OnlyB b w w1) := HW.out.trans ho1
      have hsz := HW1.out.size
      have y0 : (X : Int) % 256 = (X : Int) := by omega
      clear hs1 ho1 HO HS HW HCr NXk
      go_wp2_with (at_builtin; refine wpList_append_own _ rfl _ _ 22 rfl w.heap.size 5 i0 (.int .u8 0) 1 1 Tryd.underlying22 HI.out.1 HI.out.2.1 HI.out.2.2.1 HI.out.2.2.2 rfl (by decide) (.slice (some ⟨g, 0, none⟩) k c) k _ rfl (HO1.out.alloc _) ⟨w1.heap.size, 0, none⟩ 1 1 [.int .u8 (X : Nat)] rfl rfl (one_new8 _ _ _) (one_one8 _) (by unfold maxLen; omega) (by omega) (by simp; omega) ?_)
      intro v' w2 hown' hgrow hnil
      have BG : Below w.heap.size w1 w2 := ((Below.refl w.heap.size w1).alloc hsz _).grown hgrow (by simp; omega) (fun b hb => (HO1.out.lt b hb).1)
      rw [bv_ext] at hown'
      obtain ⟨g2, c2, ⟨hg2, hc2⟩, rfl, -⟩ := own8_of_own hown' hnil
      have HO2 : Hid (w2.ownsRow w.heap.size 5 1 (.slice (some ⟨g2, 0, none⟩) (k + 1) c2) (k + 1) (bv (k + 1) (fun j => if j = k then X else f j))) := hown'
      have HF2 : Hid (∀ i, (fun j => if j = k then X else f j) i < 256) := fun i => by
        show (if i = k then X else f i) < 256
        split
        · exact hX
        · exact HF.out i
      have HW2 : Hid (OnlyB b w w2) := HW1.out.belowS BG (Nat.le_refl _)
      have HS2 : Hid (SrcA w2 b a len cap (A + 1 + (k + 1))) := HS1.out.belowAt BG hbl
      have HK : Hid ((m : Int) - (k : Int) - 1 = (m : Int) - ((k + 1 : Nat) : Int)) := by show (m : Int) - (k : Int) - 1 = _; omega
      clear hown' hgrow hnil HO1 HS1 HW1 BG
      generalize (fun j => if j = k then X else f j) = f2 at *
      go_wp2
      go_roundw
      case rel => exact ⟨k + 1, g2, c2, f2, by omega, numEq8 HK.out, rfl, HF2.out, HO2.out, HS2.out, HW2.out⟩
      case measure => simp [intOf]; omega
    · have x1 : ¬ (0 : Int) < (m : Int) - (k : Int) := by omega
      have HS2 : Hid (SrcA wr b a len cap (A + (L + 10))) := HS.out.mono (by omega)
      go_wp2
      go_ret
      exact ⟨⟨k, f, g, c, by omega, HF.out, rfl, HO.out⟩, HS2.out, HW.out⟩
/-- spec.BytesOf -/
theorem bytesOf_ex (L : Nat) (hL1 : 1 ≤ L) (hL2 : L ≤ 255) (a : Option Addr) (len cap : Nat) (z : Nat → Nat) (hz : ∀ i, z i < 256) (hl : len ≤ maxLen) (w : World) (hc : Code8 w a len z) :
    Calls Tryd.prog 12 #[.slice a len cap, .int .i64 (L : Int)] w fun e w' => SomeOwn w.heap.size w' e L ∧ Below w.heap.size w w' := by
  have SO : Hid (∀ w : World, Calls Tryd.prog 36 #[.slice a len cap] w fun e w' => e = .returned (.pointer (some ⟨w.heap.size, 0, none⟩)) ∧ Src w' w.heap.size a len cap 0 (len % 1000) ∧ Below w.heap.size w w') := source_any a len cap hl
  have PL : Hid (∀ (b : Nat) (w : World), (∀ x, 0 < len → a = some x → x.block ≠ b) → SrcA w b a len cap 0 → Code8 w a len z → Calls Tryd.prog 42 #[.pointer (some ⟨b, 0, none⟩), .int .i64 (L : Int)] w fun e w' => SomeOwn w.heap.size w' e L ∧ OnlyB b w w') := fun b w h1 h2 h3 => (bytes_exL L hL1 hL2 b a len cap 0 z hz (by omega) hl h1 w h2 h3).mono fun _ _ h => ⟨h.1, h.2.2⟩
  have HC : Hid (Code8 w a len z) := hc
  have HSEP : Hid (∀ x, 0 < len → a = some x → x.block < w.heap.size) := hc.lt
  clear hc hz
  go_enter Tryd.func12, Tryd.ntmps12
  go_wp2_with fail
  refine (SO.out _).mono ?_
  rintro e w1 ⟨rfl, hs1, hb1⟩
  have HS1 : Hid (SrcA w1 w.heap.size a len cap 0) := ⟨0, _, Nat.le_refl _, by have := Nat.mod_lt len (show 0 < 1000 by omega); omega, hs1⟩
  have HB1 : Hid (Below w.heap.size w w1) := hb1
  have HC1 : Hid (Code8 w1 a len z) := HC.out.below hb1
  clear hs1 hb1
  go_wp2_with fail
  refine (PL.out _ _ (fun x h0 hx => by have := HSEP.out x h0 hx; omega) HS1.out HC1.out).mono ?_
  rintro e w2 ⟨⟨m, f, g, c, hm, hf, rfl, hown⟩, ho2⟩
  have HB2 : Hid (Below w.heap.size w w2) := HB1.out.trans (ho2.toBelow (Nat.le_refl _) HB1.out.size)
  have R : Hid (SomeOwn w.heap.size w2 (.returned (.slice (some ⟨g, 0, none⟩) m c)) L) := ⟨m, f, g, c, hm, hf, rfl, own_mono hown HB1.out.size⟩
  clear ho2 hown hf hm
  go_wp2
  go_ret
  exact ⟨R.out, HB2.out⟩
end Go.Proofs.YthfnbbjjiipcpaaDoor

/-
  The laws' own function at, told: the number is a function of the bytes.
-/
namespace Go.Proofs.YthfnbbjjiipcpaaDoor
open Go.ChangeShapes Go.WideShapes Go.ChangeAt Go.RowKit
def atN (len : Nat) (zs : List Int) (i n : Nat) : Nat := if len = 0 then i * 7 % n else ((zs.getD (i % len) 0 * 31 + zs.getD ((i + 1) % len) 0 + ((i / len : Nat) : Int)) % (n : Int)).toNat
theorem atN_lt (len : Nat) (zs : List Int) (i n : Nat) (hn : 0 < n) : atN len zs i n < n := by
  unfold atN
  split
  · exact Nat.mod_lt _ hn
  · have l1 := Int.emod_lt_of_pos (zs.getD (i % len) 0 * 31 + zs.getD ((i + 1) % len) 0 + ((i / len : Nat) : Int)) (show (0 : Int) < n by omega)
    omega
theorem at_is (a : Option Addr) (len cap : Nat) (zs : List Int) (w : World) (hr : IsRow .u8 w a len cap zs) (i n : Nat) (hi' : i ≤ 100000) (hn : 2 ≤ n) (hn' : n ≤ 100000) :
    Calls Tryd.prog 10 #[.slice a len cap, .int .i64 (i : Int), .int .i64 (n : Int)] w fun e w' => e = .returned (.int .i64 ((atN len zs i n : Nat) : Int)) ∧ ∃ q, w' = w.drewN q := by
  rcases hr with ⟨rfl, rfl, rfl, rfl⟩ | ⟨x, rfl, hl, hm, hz, hcell, hwz⟩
  · go_enter Tryd.func10, Tryd.ntmps10
    go_wp2
    go_ret
    exact ⟨by unfold atN; rw [if_pos rfl]; rfl, 0, rfl⟩
  · unfold maxLen at hm
    by_cases h0 : len = 0
    · subst h0
      go_enter Tryd.func10, Tryd.ntmps10
      go_wp2
      go_ret
      exact ⟨by unfold atN; rw [if_pos rfl]; rfl, 0, rfl⟩
    · obtain ⟨b, off, rfl, hc⟩ := ints_at hcell (by omega)
      have hne : ((len : Int) == 0) = false := by simp; omega
      have m1 : i % len < len := Nat.mod_lt _ (by omega)
      have m2 : (i + 1) % len < len := Nat.mod_lt _ (by omega)
      have c1 := hc (i % len) (by omega)
      have c2 := hc ((i + 1) % len) (by omega)
      have z1 : 0 ≤ zs.getD (i % len) 0 ∧ zs.getD (i % len) 0 ≤ 255 := by simpa using range_u8 hwz (i % len)
      have z2 : 0 ≤ zs.getD ((i + 1) % len) 0 ∧ zs.getD ((i + 1) % len) 0 ≤ 255 := by simpa using range_u8 hwz ((i + 1) % len)
      have HR : Hid (atN len zs i n = ((zs.getD (i % len) 0 * 31 + zs.getD ((i + 1) % len) 0 + ((i / len : Nat) : Int)) % (n : Int)).toNat) := by show atN len zs i n = _; unfold atN; rw [if_neg h0]
      generalize atN len zs i n = R at *
      generalize zs.getD (i % len) 0 = A at *
      generalize zs.getD ((i + 1) % len) 0 = B at *
      clear hcell hwz hz hc
      have q1 : (i : Int).tmod len = ((i % len : Nat) : Int) := (Int.ofNat_tmod i len).symm
      have q2 : ((i : Int) + 1).tmod len = (((i + 1) % len : Nat) : Int) := (Int.ofNat_tmod (i + 1) len).symm
      have q3 : (i : Int).tdiv len = ((i / len : Nat) : Int) := (Int.ofNat_tdiv i len).symm
      have d1 : i / len ≤ 100000 := Nat.le_trans (Nat.div_le_self _ _) (by omega)
      generalize i % len = I at *
      generalize (i + 1) % len = J at *
      generalize i / len = D at *
      go_enter Tryd.func10, Tryd.ntmps10
      go_wp2
      go_quiet (fail)
      go_wp2
      go_ret
      have l1 := Int.emod_lt_of_pos (A * 31 + B + D) (show (0 : Int) < n by omega)
      have l2 := Int.emod_nonneg (A * 31 + B + D) (show (n : Int) ≠ 0 by omega)
      refine ⟨?_, _, rfl⟩
      rw [HR.out, Int.toNat_of_nonneg l2]; rfl
end Go.Proofs.YthfnbbjjiipcpaaDoor
