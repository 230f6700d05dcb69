/-
  The model's source of draws (l00Src): what it holds, and the contracts of byte, next, blob, BlobOf.
-/
import Derived.Test.YtbhlgcenfanicaaStrS
import Derived.Test.YtbhlgcenfanicaaCode8
import Derived.Test.YtbhlgcenfanicaaTxtA
import Derived.Test.YtbhlgcenfanicaaKSpec
import Derived.BigRegion
import Derived.Deep.Cut
import Derived.Deep.CutRange
import Derived.Deep.DeepCutAuto
namespace Go.Proofs.Ytbhlgcenfanicaa
open Go.ChangeShapes Go.WideShapes Go.ChangeAt Go.RowKit
/-- The byte that is drawn, and the seed behind it. -/
def drawB (len : Nat) (z : Nat → Nat) (at_ seed : Nat) : Nat × Nat :=
  if at_ + 1 ≤ len then (z at_, (seed * 31 + z at_ + 7) % 2147483648) else if 3000 < at_ + 1 then (0, seed) else ((seed * 1103515245 + 12345) % 2147483648 / 65536 % 256, (seed * 1103515245 + 12345) % 2147483648)
theorem drawB_lt {len : Nat} {z : Nat → Nat} (hz : ∀ i, z i < 256) {at_ seed : Nat} (hs : seed < 2147483648) : (drawB len z at_ seed).1 < 256 ∧ (drawB len z at_ seed).2 < 2147483648 := by
  unfold drawB
  split
  · exact ⟨hz _, Nat.mod_lt _ (by omega)⟩
  · split
    · exact ⟨by omega, hs⟩
    · exact ⟨Nat.mod_lt _ (by omega), Nat.mod_lt _ (by omega)⟩
/-- A source in block b. -/
structure Src (w : World) (b : Nat) (a : Option Addr) (len cap at_ seed : Nat) : Prop where
  code : w.cell? ⟨b, 0, none⟩ = some (.slice a len cap)
  at1 : w.cell? ⟨b, 1, none⟩ = some (.int .i64 (at_ : Nat))
  seed2 : w.cell? ⟨b, 2, none⟩ = some (.int .i64 (seed : Nat))
  free1 : w.frozen? ⟨b, 1, none⟩ = false
  free2 : w.frozen? ⟨b, 2, none⟩ = false
theorem Src.lt {w : World} {b : Nat} {a : Option Addr} {len cap at_ seed : Nat} (h : Src w b a len cap at_ seed) : b < w.heap.size := strBlock h.code
theorem Src.below {w w' : World} {b : Nat} {a : Option Addr} {len cap at_ seed : Nat} (h : Src w b a len cap at_ seed) (hb : Below w.heap.size w w') : Src w' b a len cap at_ seed :=
  ⟨by rw [hb.cell (p := ⟨b, 0, none⟩) h.lt]; exact h.code, by rw [hb.cell (p := ⟨b, 1, none⟩) h.lt]; exact h.at1, by rw [hb.cell (p := ⟨b, 2, none⟩) h.lt]; exact h.seed2, by rw [hb.frozen (p := ⟨b, 1, none⟩) h.lt]; exact h.free1, by rw [hb.frozen (p := ⟨b, 2, none⟩) h.lt]; exact h.free2⟩
theorem Src.onlyB {w w' : World} {b c : Nat} {a : Option Addr} {len cap at_ seed : Nat} (h : Src w b a len cap at_ seed) (ho : OnlyB c w w') (hne : b ≠ c) : Src w' b a len cap at_ seed := by
  have hb := ho.block b h.lt hne
  exact ⟨by rw [World.cell?_of_block (w := w) hb]; exact h.code, by rw [World.cell?_of_block (w := w) hb]; exact h.at1, by rw [World.cell?_of_block (w := w) hb]; exact h.seed2, by rw [World.frozen?_of_block (w := w) hb]; exact h.free1, by rw [World.frozen?_of_block (w := w) hb]; exact h.free2⟩
theorem OnlyB.trans {b : Nat} {w w' w'' : World} (h : OnlyB b w w') (k : OnlyB b w' w'') : OnlyB b w w'' :=
  ⟨k.os.trans h.os, k.tape.trans h.tape, k.output.trans h.output, Nat.le_trans h.size k.size, fun j hj hn => (k.block j (Nat.lt_of_lt_of_le hj h.size) hn).trans (h.block j hj hn)⟩
theorem OnlyB.drewN {b : Nat} {w w' : World} (h : OnlyB b w w') (q : Nat) : OnlyB b w (w'.drewN q) := ⟨h.os, h.tape, h.output, h.size, h.block⟩
set_option maxRecDepth 100000 in
set_option maxHeartbeats 2000000 in
/-- (*l00Src).byte -/
theorem byte_any (b : Nat) (a : Option Addr) (len cap at_ seed : Nat) (z : Nat → Nat) (hz : ∀ i, z i < 256) (hat : at_ ≤ 100000000) (hs : seed < 2147483648) (hl : len ≤ maxLen) (hsep : ∀ x, 0 < len → a = some x → x.block ≠ b) (w : World) (h : Src w b a len cap at_ seed) (hc : Code8 w a len z) :
    Calls Try.prog 73 #[.pointer (some ⟨b, 0, none⟩)] w fun e w' => e = .returned (.int .i64 ((drawB len z at_ seed).1 : Nat)) ∧ Src w' b a len cap (at_ + 1) (drawB len z at_ seed).2 ∧ OnlyB b w w' := by
  obtain ⟨h0, h1, h2, f1, f2⟩ := h
  have hl' : (len : Int) ≤ 9223372036854775807 := by unfold maxLen at hl; omega
  by_cases hin : at_ + 1 ≤ len
  · obtain ⟨cb, off, rfl, hcell⟩ := hc.opened (by omega)
    have hne : cb ≠ b := hsep _ (by omega) rfl
    have c1 := hcell at_ (by omega)
    have lz := hz at_
    have DR : Hid (drawB len z at_ seed = (z at_, (seed * 31 + z at_ + 7) % 2147483648)) := by show drawB _ _ _ _ = _; unfold drawB; rw [if_pos hin]
    have x1 : (at_ : Int) + 1 ≤ (len : Int) := by omega
    clear hc hcell hsep hz
    generalize z at_ = Z at *
    have em : ((seed : Int) * 31 + (Z : Int) + 7) % 2147483648 = (((seed * 31 + Z + 7) % 2147483648 : Nat) : Int) := by omega
    go_enter Try.func73, Try.ntmps73
    go_wp2
    have k0 : (w.setCell ⟨b, 1, none⟩ (.int .i64 ((at_ : Int) + 1))).cell? ⟨b, 0, none⟩ = some (.slice (some ⟨cb, off, none⟩) len cap) := by rw [World.cell?_setCell_other _ _ _ _ (by intro e; cases e)]; exact h0
    have k1 : (w.setCell ⟨b, 1, none⟩ (.int .i64 ((at_ : Int) + 1))).cell? ⟨b, 1, none⟩ = some (.int .i64 ((at_ : Int) + 1)) := World.cell?_setCell_same _ _ _ h1
    have k2 : (w.setCell ⟨b, 1, none⟩ (.int .i64 ((at_ : Int) + 1))).cell? ⟨b, 2, none⟩ = some (.int .i64 (seed : Nat)) := by rw [World.cell?_setCell_other _ _ _ _ (by intro e; cases e)]; exact h2
    have k3 : (w.setCell ⟨b, 1, none⟩ (.int .i64 ((at_ : Int) + 1))).cell? ⟨cb, off + at_, none⟩ = some (.int .u8 (Z : Nat)) := by rw [World.cell?_setCell_other _ _ _ _ (by intro e; exact hne (congrArg Addr.block e).symm)]; exact c1
    have g1 : (w.setCell ⟨b, 1, none⟩ (.int .i64 ((at_ : Int) + 1))).frozen? ⟨b, 1, none⟩ = false := by rw [World.frozen?_setCell]; exact f1
    have g2 : (w.setCell ⟨b, 1, none⟩ (.int .i64 ((at_ : Int) + 1))).frozen? ⟨b, 2, none⟩ = false := by rw [World.frozen?_setCell]; exact f2
    have HO : Hid (OnlyB b w (w.setCell ⟨b, 1, none⟩ (.int .i64 ((at_ : Int) + 1)))) := (OnlyB.refl b w).setCell 1 _
    clear h0 h1 h2 f1 f2 c1
    generalize (w.setCell ⟨b, 1, none⟩ (.int .i64 ((at_ : Int) + 1))) = w1 at *
    go_quiet (fail)
    rw [← World.cell?_drewN (n := nq)] at k0 k1 k2 k3
    rw [← World.frozen?_drewN (n := nq)] at g1 g2
    have HO2 : Hid (OnlyB b w (w1.drewN nq)) := HO.out.drewN nq
    clear HO
    generalize w1.drewN nq = w2 at *
    go_wp2
    have et : ((at_ : Int) + 1 - 1) = (at_ : Int) := by omega
    have x2 : (at_ : Int) < (len : Int) := by omega
    have x3 : (0 : Int) ≤ (at_ : Int) := by omega
    have ew : IntKind.i64.wrap (at_ : Int) = (at_ : Int) := IntWalk.i64_in _ ⟨by omega, by omega⟩
    have wS : IntKind.i64.wrap ((seed : Int) * 31) = (seed : Int) * 31 := IntWalk.i64_in _ ⟨by omega, by omega⟩
    have wZ : IntKind.i64.wrap (Z : Int) = (Z : Int) := IntWalk.i64_in _ ⟨by omega, by omega⟩
    have wA : IntKind.i64.wrap ((seed : Int) * 31 + (Z : Int)) = (seed : Int) * 31 + (Z : Int) := IntWalk.i64_in _ ⟨by omega, by omega⟩
    have wB : IntKind.i64.wrap ((seed : Int) * 31 + (Z : Int) + 7) = (seed : Int) * 31 + (Z : Int) + 7 := IntWalk.i64_in _ ⟨by omega, by omega⟩
    have tm : ((seed : Int) * 31 + (Z : Int) + 7).tmod 2147483648 = (((seed * 31 + Z + 7) % 2147483648 : Nat) : Int) := by
      rw [show (seed : Int) * 31 + (Z : Int) + 7 = ((seed * 31 + Z + 7 : Nat) : Int) from by omega]; exact (Int.ofNat_tmod (seed * 31 + Z + 7) 2147483648).symm
    generalize (seed * 31 + Z + 7) % 2147483648 = S' at *
    go_cut [0] (fun p wx => p = .pointer (some ⟨b, 0, none⟩) ∧ wx = (w2.setCell ⟨b, 2, none⟩ (.int .i64 (S' : Nat))).drew)
    case first =>
      go_region
      all_goals (go_wp2_with fail; go_meet; exact ⟨rfl, rfl⟩)
    case rest =>
      obtain ⟨rfl, rfl⟩ := hcut
      have q0 : ((w2.setCell ⟨b, 2, none⟩ (.int .i64 (S' : Nat))).drew).cell? ⟨b, 0, none⟩ = some (.slice (some ⟨cb, off, none⟩) len cap) := by
        show (w2.setCell ⟨b, 2, none⟩ (.int .i64 (S' : Nat))).cell? _ = _
        rw [World.cell?_setCell_other _ _ _ _ (by intro e; cases e)]; exact k0
      have q1 : ((w2.setCell ⟨b, 2, none⟩ (.int .i64 (S' : Nat))).drew).cell? ⟨b, 1, none⟩ = some (.int .i64 ((at_ : Int) + 1)) := by
        show (w2.setCell ⟨b, 2, none⟩ (.int .i64 (S' : Nat))).cell? _ = _
        rw [World.cell?_setCell_other _ _ _ _ (by intro e; cases e)]; exact k1
      have q2 : ((w2.setCell ⟨b, 2, none⟩ (.int .i64 (S' : Nat))).drew).cell? ⟨b, 2, none⟩ = some (.int .i64 (S' : Nat)) := by
        show (w2.setCell ⟨b, 2, none⟩ (.int .i64 (S' : Nat))).cell? _ = _
        exact World.cell?_setCell_same _ _ _ k2
      have q3 : ((w2.setCell ⟨b, 2, none⟩ (.int .i64 (S' : Nat))).drew).cell? ⟨cb, off + at_, none⟩ = some (.int .u8 (Z : Nat)) := by
        show (w2.setCell ⟨b, 2, none⟩ (.int .i64 (S' : Nat))).cell? _ = _
        rw [World.cell?_setCell_other _ _ _ _ (by intro e; exact hne (congrArg Addr.block e).symm)]; exact k3
      have q4 : ((w2.setCell ⟨b, 2, none⟩ (.int .i64 (S' : Nat))).drew).frozen? ⟨b, 1, none⟩ = false := by
        show (w2.setCell ⟨b, 2, none⟩ (.int .i64 (S' : Nat))).frozen? _ = _
        rw [World.frozen?_setCell]; exact g1
      have q5 : ((w2.setCell ⟨b, 2, none⟩ (.int .i64 (S' : Nat))).drew).frozen? ⟨b, 2, none⟩ = false := by
        show (w2.setCell ⟨b, 2, none⟩ (.int .i64 (S' : Nat))).frozen? _ = _
        rw [World.frozen?_setCell]; exact g2
      have HO3 : Hid (OnlyB b w ((w2.setCell ⟨b, 2, none⟩ (.int .i64 (S' : Nat))).drew)) := (HO2.out.setCell 2 _).drewN 1
      have HS3 : Hid (Src ((w2.setCell ⟨b, 2, none⟩ (.int .i64 (S' : Nat))).drew) b (some ⟨cb, off, none⟩) len cap (at_ + 1) S') := ⟨q0, q1, q2, q4, q5⟩
      clear k0 k1 k2 k3 g1 g2 HO2 q2 q4 q5
      generalize (w2.setCell ⟨b, 2, none⟩ (.int .i64 (S' : Nat))).drew = w3 at *
      go_wp2_with fail
      go_quiet (fail)
      go_wp2
      go_ret
      rw [DR.out]
      exact ⟨rfl, ⟨HS3.out.code, HS3.out.at1, HS3.out.seed2, HS3.out.free1, HS3.out.free2⟩, HO3.out.drewN _⟩
  · have x1 : ¬ (at_ : Int) + 1 ≤ (len : Int) := by omega
    have DR0 : Hid (drawB len z at_ seed = if 3000 < at_ + 1 then (0, seed) else ((seed * 1103515245 + 12345) % 2147483648 / 65536 % 256, (seed * 1103515245 + 12345) % 2147483648)) := by show drawB _ _ _ _ = _; unfold drawB; rw [if_neg hin]
    clear hc hsep hz hin
    go_enter Try.func73, Try.ntmps73
    go_wp2
    have k0 : (w.setCell ⟨b, 1, none⟩ (.int .i64 ((at_ : Int) + 1))).cell? ⟨b, 0, none⟩ = some (.slice a len cap) := by rw [World.cell?_setCell_other _ _ _ _ (by intro e; cases e)]; exact h0
    have k1 : (w.setCell ⟨b, 1, none⟩ (.int .i64 ((at_ : Int) + 1))).cell? ⟨b, 1, none⟩ = some (.int .i64 ((at_ : Int) + 1)) := World.cell?_setCell_same _ _ _ h1
    have k2 : (w.setCell ⟨b, 1, none⟩ (.int .i64 ((at_ : Int) + 1))).cell? ⟨b, 2, none⟩ = some (.int .i64 (seed : Nat)) := by rw [World.cell?_setCell_other _ _ _ _ (by intro e; cases e)]; exact h2
    have g1 : (w.setCell ⟨b, 1, none⟩ (.int .i64 ((at_ : Int) + 1))).frozen? ⟨b, 1, none⟩ = false := by rw [World.frozen?_setCell]; exact f1
    have g2 : (w.setCell ⟨b, 1, none⟩ (.int .i64 ((at_ : Int) + 1))).frozen? ⟨b, 2, none⟩ = false := by rw [World.frozen?_setCell]; exact f2
    have HO : Hid (OnlyB b w (w.setCell ⟨b, 1, none⟩ (.int .i64 ((at_ : Int) + 1)))) := (OnlyB.refl b w).setCell 1 _
    clear h0 h1 h2 f1 f2
    generalize (w.setCell ⟨b, 1, none⟩ (.int .i64 ((at_ : Int) + 1))) = w1 at *
    go_quiet (fail)
    rw [← World.cell?_drewN (n := nq)] at k0 k1 k2
    rw [← World.frozen?_drewN (n := nq)] at g1 g2
    have HO2 : Hid (OnlyB b w (w1.drewN nq)) := HO.out.drewN nq
    clear HO
    generalize w1.drewN nq = w2 at *
    have HS2 : Hid (Src w2 b a len cap (at_ + 1) seed) := ⟨k0, k1, k2, g1, g2⟩
    by_cases hbig : 3000 < at_ + 1
    · have x2 : (3000 : Int) < (at_ : Int) + 1 := by omega
      have DR : Hid (drawB len z at_ seed = (0, seed)) := by show drawB _ _ _ _ = _; rw [DR0.out, if_pos hbig]
      go_wp2
      go_ret
      rw [DR.out]
      exact ⟨rfl, HS2.out, HO2.out⟩
    · have x2 : ¬ (3000 : Int) < (at_ : Int) + 1 := by omega
      have DR : Hid (drawB len z at_ seed = ((seed * 1103515245 + 12345) % 2147483648 / 65536 % 256, (seed * 1103515245 + 12345) % 2147483648)) := by show drawB _ _ _ _ = _; rw [DR0.out, if_neg hbig]
      have wS : IntKind.i64.wrap ((seed : Int) * 1103515245) = (seed : Int) * 1103515245 := IntWalk.i64_in _ ⟨by omega, by omega⟩
      have wA : IntKind.i64.wrap ((seed : Int) * 1103515245 + 12345) = (seed : Int) * 1103515245 + 12345 := IntWalk.i64_in _ ⟨by omega, by omega⟩
      have tm : ((seed : Int) * 1103515245 + 12345).tmod 2147483648 = (((seed * 1103515245 + 12345) % 2147483648 : Nat) : Int) := by
        rw [show (seed : Int) * 1103515245 + 12345 = ((seed * 1103515245 + 12345 : Nat) : Int) from by omega]; exact (Int.ofNat_tmod (seed * 1103515245 + 12345) 2147483648).symm
      have em : ((seed : Int) * 1103515245 + 12345) % 2147483648 = (((seed * 1103515245 + 12345) % 2147483648 : Nat) : Int) := by omega
      have hS' : (seed * 1103515245 + 12345) % 2147483648 < 2147483648 := Nat.mod_lt _ (by omega)
      generalize (seed * 1103515245 + 12345) % 2147483648 = S' at *
      have HS3 : Hid (Src (w2.setCell ⟨b, 2, none⟩ (.int .i64 (S' : Nat))) b a len cap (at_ + 1) S') :=
        ⟨by rw [World.cell?_setCell_other _ _ _ _ (by intro e; cases e)]; exact k0, by rw [World.cell?_setCell_other _ _ _ _ (by intro e; cases e)]; exact k1, World.cell?_setCell_same _ _ _ k2, by rw [World.frozen?_setCell]; exact g1, by rw [World.frozen?_setCell]; exact g2⟩
      go_wp2
      go_ret
      rw [DR.out]
      exact ⟨by go_num, HS3.out, HO2.out.setCell 2 _⟩
set_option maxRecDepth 100000 in
/-- (*l00Src).next of at most 256 -/
theorem next_any (n : Nat) (hn : 2 ≤ n) (hn' : n ≤ 256) (b : Nat) (a : Option Addr) (len cap at_ seed : Nat) (z : Nat → Nat) (hz : ∀ i, z i < 256) (hat : at_ ≤ 100000000) (hs : seed < 2147483648) (hl : len ≤ maxLen) (hsep : ∀ x, 0 < len → a = some x → x.block ≠ b) (w : World) (h : Src w b a len cap at_ seed) (hc : Code8 w a len z) :
    Calls Try.prog 46 #[.pointer (some ⟨b, 0, none⟩), .int .i64 (n : Int)] w fun e w' => e = .returned (.int .i64 (((drawB len z at_ seed).1 % n : Nat) : Int)) ∧ Src w' b a len cap (at_ + 1) (drawB len z at_ seed).2 ∧ OnlyB b w w' := by
  have BY : Hid (∀ w : World, Src w b a len cap at_ seed → Code8 w a len z → Calls Try.prog 73 #[.pointer (some ⟨b, 0, none⟩)] w fun e w' => e = .returned (.int .i64 ((drawB len z at_ seed).1 : Nat)) ∧ Src w' b a len cap (at_ + 1) (drawB len z at_ seed).2 ∧ OnlyB b w w') := fun w h hc => byte_any b a len cap at_ seed z hz hat hs hl hsep w h hc
  have lb := (drawB_lt (len := len) hz (at_ := at_) hs).1
  have H : Hid (Src w b a len cap at_ seed) := h
  have HC : Hid (Code8 w a len z) := hc
  have x1 : ¬ (n : Int) ≤ 1 := by omega
  have x2 : (n : Int) ≤ 256 := by omega
  clear h hc hsep hz
  generalize (drawB len z at_ seed).1 = V at *
  generalize (drawB len z at_ seed).2 = S at *
  have em : ((V : Int)).tmod (n : Int) = ((V % n : Nat) : Int) := (Int.ofNat_tmod V n).symm
  have hn0 : ((n : Int) == 0) = false := by rw [beq_eq_false_iff_ne]; omega
  go_enter Try.func46, Try.ntmps46
  go_wp2_with fail
  refine (BY.out _ H.out HC.out).mono ?_
  rintro e w1 ⟨rfl, hs1, ho1⟩
  have HS1 : Hid (Src w1 b a len cap (at_ + 1) S) := hs1
  have HO1 : Hid (OnlyB b w w1) := ho1
  clear hs1 ho1
  go_wp2
  go_ret
  exact ⟨by go_num, HS1.out, HO1.out⟩
/-- The seed when k bytes more are drawn. -/
def seedK (len : Nat) (z : Nat → Nat) (at_ seed : Nat) : Nat → Nat
  | 0 => seed
  | k + 1 => (drawB len z (at_ + k) (seedK len z at_ seed k)).2
/-- The k-th byte that is drawn. -/
def byteK (len : Nat) (z : Nat → Nat) (at_ seed k : Nat) : Nat := (drawB len z (at_ + k) (seedK len z at_ seed k)).1
theorem seedK_lt {len : Nat} {z : Nat → Nat} (hz : ∀ i, z i < 256) {at_ seed : Nat} (hs : seed < 2147483648) : ∀ k, seedK len z at_ seed k < 2147483648
  | 0 => hs
  | k + 1 => (drawB_lt hz (seedK_lt hz hs k)).2
theorem byteK_lt {len : Nat} {z : Nat → Nat} (hz : ∀ i, z i < 256) {at_ seed : Nat} (hs : seed < 2147483648) (k : Nat) : byteK len z at_ seed k < 256 := (drawB_lt hz (seedK_lt hz hs k)).1
theorem OnlyB.belowAt {b : Nat} {w w' w'' : World} (h : OnlyB b w w') (hb : Below w.heap.size w' w'') : OnlyB b w w'' :=
  ⟨hb.os.trans h.os, hb.tape.trans h.tape, hb.output.trans h.output, Nat.le_trans h.size hb.size, fun k hk hn => (hb.block k hk).trans (h.block k hk hn)⟩
theorem ownsRow_onlyB {w w' : World} {b base : Nat} {e : TypeId} {size : Nat} {v : Value} {n : Nat} {xs : List Value} (h : w.ownsRow base e size v n xs) (ho : OnlyB b w w') (hb : b < base) : w'.ownsRow base e size v n xs := by
  obtain ⟨hl, h0 | ⟨g, cap, cur, hv, h1, hh, h2⟩⟩ := h
  · exact ⟨hl, .inl h0⟩
  · refine ⟨hl, .inr ⟨g, cap, cur, hv, h1, ?_, h2⟩⟩
    rw [ho.block g ?_ (by omega)]
    · exact hh
    · rcases Nat.lt_or_ge g w.heap.size with k | k
      · exact k
      · rw [Array.getElem?_eq_none k] at hh; cases hh
theorem Try.infoByte : (Try.prog.info? 5).map (fun i => (i.zero, i.size, i.bytes)) = some (some (.int .u8 0), 1, 1) := by kernel_rfl
set_option maxRecDepth 100000 in
set_option maxHeartbeats 1000000 in
/-- (*l00Src).blob -/
theorem blob_any (n : Nat) (hn : 1 ≤ n) (hn' : n ≤ 100000) (b : Nat) (a : Option Addr) (len cap at_ seed : Nat) (z : Nat → Nat) (hz : ∀ i, z i < 256) (hat : at_ ≤ 10000000) (hs : seed < 2147483648) (hl : len ≤ maxLen) (hsep : ∀ x, 0 < len → a = some x → x.block ≠ b) (w : World) (h : Src w b a len cap at_ seed) (hc : Code8 w a len z) :
    Calls Try.prog 22 #[.pointer (some ⟨b, 0, none⟩), .int .i64 (n : Int)] w fun e w' => e = .returned (.string (kstr (byteK len z at_ seed) 0 n)) ∧ Src w' b a len cap (at_ + n) (seedK len z at_ seed n) ∧ OnlyB b w w' := by
  have NX : Hid (∀ (k : Nat) (w : World), k < n → Src w b a len cap (at_ + k) (seedK len z at_ seed k) → Code8 w a len z → Calls Try.prog 46 #[.pointer (some ⟨b, 0, none⟩), .int .i64 256] w fun e w' => e = .returned (.int .i64 ((byteK len z at_ seed k : Nat) : Int)) ∧ Src w' b a len cap (at_ + k + 1) (seedK len z at_ seed (k + 1)) ∧ OnlyB b w w') := fun k w hk h hc =>
    (next_any 256 (by omega) (by omega) b a len cap (at_ + k) (seedK len z at_ seed k) z hz (by omega) (seedK_lt hz hs k) hl hsep w h hc).mono fun e w' ⟨he, hh⟩ => ⟨by rw [he, Nat.mod_eq_of_lt (show (drawB len z (at_ + k) (seedK len z at_ seed k)).1 < 256 from byteK_lt hz hs k)]; rfl, hh⟩
  have LB : Hid (∀ k, byteK len z at_ seed k < 256) := byteK_lt hz hs
  have H : Hid (Src w b a len cap at_ seed) := h
  have HC : Hid (Code8 w a len z) := hc
  have HSEP : Hid (∀ x, 0 < len → a = some x → x.block ≠ b) := hsep
  have hbl : b < w.heap.size := h.lt
  have S0 : Hid (seedK len z at_ seed 0 = seed) := rfl
  clear h hc hsep hz
  generalize byteK len z at_ seed = BK at *
  generalize seedK len z at_ seed = SK at *
  obtain ⟨i0, hi, hz0, hz1, hz2⟩ := info_parts Try.infoByte
  have HI : Hid (Try.prog.info? 5 = some i0 ∧ i0.zero = some (.int .u8 0) ∧ i0.size = 1 ∧ i0.bytes = 1) := ⟨hi, hz0, hz1, hz2⟩
  clear hi hz0 hz1 hz2
  go_enter Try.func22, Try.ntmps22
  go_wp2
  go_loopw [5, 6] (fun v i wr => ∃ k : Nat, k ≤ n ∧ i = .int .i64 k ∧ wr.ownsRow w.heap.size 5 1 v k ((List.range k).map fun j => .int .u8 (BK j : Nat)) ∧ Src wr b a len cap (at_ + k) (SK k) ∧ OnlyB b w wr) (fun _ i _ => n - (intOf i).toNat)
  case atStart =>
    refine ⟨0, by omega, rfl, ?_, ?_, (OnlyB.refl b w).below ((Below.refl _ _).alloc (Nat.le_refl _) _)⟩
    · exact ⟨rfl, .inr ⟨w.heap.size, 0, #[], rfl, Nat.le_refl _, Deep.blk_alloc_new _ _, Nat.le_refl _, by simp [maxLen], rfl, rfl⟩⟩
    · rw [S0.out]; exact H.out.below ((Below.refl _ _).alloc (Nat.le_refl _) _)
  case round =>
    obtain ⟨k, hk, rfl, hown, hsr, ho⟩ := hrel
    have HO : Hid (wr.ownsRow w.heap.size 5 1 u5 k ((List.range k).map fun j => .int .u8 (BK j : Nat))) := hown
    have HS : Hid (Src wr b a len cap (at_ + k) (SK k)) := hsr
    have HW : Hid (OnlyB b w wr) := ho
    have HCr : Hid (Code8 wr a len z) := HC.out.onlyB ho HSEP.out
    clear hown hsr ho
    by_cases hlt : k < n
    · have x1 : (k : Int) < (n : Int) := by omega
      go_wp2_with fail
      refine (NX.out k _ hlt HS.out HCr.out).mono ?_
      rintro e w1 ⟨rfl, hs1, ho1⟩
      have HO1 : Hid (w1.ownsRow w.heap.size 5 1 u5 k ((List.range k).map fun j => .int .u8 (BK j : Nat))) := ownsRow_onlyB HO.out ho1 hbl
      have HS1 : Hid (Src w1 b a len cap (at_ + k + 1) (SK (k + 1))) := hs1
      have HW1 : Hid (OnlyB b w w1) := HW.out.trans ho1
      have hsz := HW1.out.size
      have lx := LB.out k
      have y0 : IntKind.u8.wrap (BK k : Int) = (BK k : Int) := u8in _ lx
      clear hs1 ho1 HO HS HW HCr
      generalize hX : BK k = X at *
      have HX : Hid (BK k = X) := hX
      clear hX
      go_wp2_with (at_builtin; refine wpList_append_own _ rfl _ _ 22 rfl w.heap.size 5 i0 (.int .u8 0) 1 1 Try.underlying22 HI.out.1 HI.out.2.1 HI.out.2.2.1 HI.out.2.2.2 rfl (by decide) u5 k _ rfl (HO1.out.alloc _) ⟨w1.heap.size, 0, none⟩ 1 1 [.int .u8 (X : Nat)] rfl rfl (one_newK _ _ _) (one_oneK _ rfl) (by unfold maxLen; omega) (by omega) (by simp; omega) ?_)
      intro v' w2 hown' hgrow _
      have BG : Below w.heap.size w1 w2 := ((Below.refl w.heap.size w1).alloc hsz _).grown hgrow (by simp; omega) (fun b hb => (HO1.out.lt b hb).1)
      have HO2 : Hid (w2.ownsRow w.heap.size 5 1 v' (k + 1) ((List.range (k + 1)).map fun j => .int .u8 (BK j : Nat))) := by
        rw [List.range_succ, List.map_append]
        have e := HX.out
        subst e
        exact hown'
      have HW2 : Hid (OnlyB b w w2) := HW1.out.belowAt BG
      have hb2 := BG.block b hbl
      have HS2 : Hid (Src w2 b a len cap (at_ + (k + 1)) (SK (k + 1))) :=
        ⟨by rw [World.cell?_of_block (w := w1) hb2]; exact HS1.out.code, by rw [World.cell?_of_block (w := w1) hb2]; exact HS1.out.at1, by rw [World.cell?_of_block (w := w1) hb2]; exact HS1.out.seed2, by rw [World.frozen?_of_block (w := w1) hb2]; exact HS1.out.free1, by rw [World.frozen?_of_block (w := w1) hb2]; exact HS1.out.free2⟩
      clear hown' hgrow HO1 HS1 HW1 BG hb2
      go_wp2
      go_roundw
      case rel => exact ⟨k + 1, by omega, by go_num, HO2.out, HS2.out, HW2.out⟩
      case measure => simp [intOf]; omega
    · obtain rfl : k = n := by omega
      obtain ⟨g, cap', hg1, hg2, rfl, hcell⟩ := owned_open HO.out (by omega)
      have hcv : (convert 22 9 (.slice (some ⟨g, 0, none⟩) k cap')).run Try.prog wr = .ok (.string (kstr BK 0 k)) wr := by
        refine run_convert_bytes_arg wr 22 5 Try.underlying22 Try.underlying5 g 0 k cap' ((List.range k).map fun i => ((BK (0 + i) : Nat) : Int)) (by simp) (fun i hi => ?_) 9 Try.underlying9
        rw [Nat.zero_add, hcell i hi]
        simp [hi]
      have x1 : ¬ (k : Int) < (k : Int) := by omega
      clear hcell HO HCr
      go_wp2
      go_ret
      exact ⟨rfl, HS.out, HW.out⟩
theorem source_any (a : Option Addr) (len cap : Nat) (hl : len ≤ maxLen) (w : World) :
    Calls Try.prog 21 #[.slice a len cap] w fun e w' => e = .returned (.pointer (some ⟨w.heap.size, 0, none⟩)) ∧ Src w' w.heap.size a len cap 0 (len % 1000) ∧ Below w.heap.size w w' := by
  have hl' : (len : Int) ≤ 9223372036854775807 := by unfold maxLen at hl; omega
  have em : (len : Int) % 1000 = ((len % 1000 : Nat) : Int) := by omega
  have et : (len : Int).tmod 1000 = ((len % 1000 : Nat) : Int) := (Int.ofNat_tmod len 1000).symm
  generalize len % 1000 = M at *
  go_enter Try.func21, Try.ntmps21
  go_wp2
  go_ret
  refine ⟨rfl, ⟨?_, ?_, ?_, ?_, ?_⟩, (Below.refl _ _).alloc (Nat.le_refl _) _⟩
  · simp
  · simp
  · simp
  · simp
  · simp
/-- spec.BlobOf: n bytes drawn from a code. -/
theorem blobOf_any (n : Nat) (hn : 1 ≤ n) (hn' : n ≤ 100000) (a : Option Addr) (len cap : Nat) (z : Nat → Nat) (hz : ∀ i, z i < 256) (hl : len ≤ maxLen) (w : World) (hc : Code8 w a len z) :
    Calls Try.prog 7 #[.slice a len cap, .int .i64 (n : Int)] w fun e w' => e = .returned (.string (kstr (byteK len z 0 (len % 1000)) 0 n)) ∧ Below w.heap.size w w' := by
  have SO : Hid (∀ w : World, Calls Try.prog 21 #[.slice a len cap] w fun e w' => e = .returned (.pointer (some ⟨w.heap.size, 0, none⟩)) ∧ Src w' w.heap.size a len cap 0 (len % 1000) ∧ Below w.heap.size w w') := source_any a len cap hl
  have BL : Hid (∀ (b : Nat) (w : World), (∀ x, 0 < len → a = some x → x.block ≠ b) → Src w b a len cap 0 (len % 1000) → Code8 w a len z → Calls Try.prog 22 #[.pointer (some ⟨b, 0, none⟩), .int .i64 (n : Int)] w fun e w' => e = .returned (.string (kstr (byteK len z 0 (len % 1000)) 0 n)) ∧ Src w' b a len cap (0 + n) (seedK len z 0 (len % 1000) n) ∧ OnlyB b w w') := fun b w h1 h2 h3 => blob_any n hn hn' b a len cap 0 (len % 1000) z hz (by omega) (by have := Nat.mod_lt len (show 0 < 1000 by omega); omega) hl h1 w h2 h3
  have HC : Hid (Code8 w a len z) := hc
  have HSEP : Hid (∀ x, 0 < len → a = some x → x.block < w.heap.size) := fun x h0 hx => by
    obtain ⟨cb, off, ha, hh⟩ := hc 0 h0
    rw [ha] at hx
    cases hx
    exact strBlock hh
  clear hc hz
  generalize kstr (byteK len z 0 (len % 1000)) 0 n = RS at *
  go_enter Try.func7, Try.ntmps7
  go_wp2_with fail
  refine (SO.out _).mono ?_
  rintro e w1 ⟨rfl, hs1, hb1⟩
  have HS1 : Hid (Src w1 w.heap.size a len cap 0 (len % 1000)) := hs1
  have HB1 : Hid (Below w.heap.size w w1) := hb1
  have HC1 : Hid (Code8 w1 a len z) := HC.out.below hb1
  clear hs1 hb1
  go_wp2_with fail
  refine (BL.out _ _ (fun x h0 hx => by have := HSEP.out x h0 hx; omega) HS1.out HC1.out).mono ?_
  rintro e w2 ⟨rfl, hs2, ho2⟩
  have HB2 : Hid (Below w.heap.size w w2) := HB1.out.trans (ho2.toBelow (Nat.le_refl _) HB1.out.size)
  clear hs2 ho2
  go_wp2
  go_ret
  exact ⟨rfl, HB2.out⟩
end Go.Proofs.Ytbhlgcenfanicaa
