/-
  Texts of the proof, joined: At, AtIs, Code8, TxtA, SrcD, SrcN.
-/
import Derived.Test.YtedncfcmhaaobaaRows
import Derived.WalkKit
import Derived.ProofKit
import Derived.OpenShut
import Derived.ShutString
import Derived.ChangeOld
import Derived.Below
import Derived.WalkSmall
import Derived.Deep.QuietTactic
import Derived.BigQuiet
import Derived.Test.YtedncfcmhaaobaaV01
import Derived.Test.YtedncfcmhaaobaaV05
import Derived.Laws.OwnMore
import Derived.Laws.BytesArg
import Derived.OwnWalk
import Derived.Laws.IdiomStrings
import Derived.Deep.RegionHeld3
import Derived.Deep.AppendLies
import Derived.Laws.DeepStrings4
import Derived.Deep.DeepCutAuto
import Derived.Deep.Cut
import Derived.Deep.CutRange
import Derived.BigRegion
namespace Go.Proofs.Ytedncfcmhaaobaa
open Go.ChangeShapes Go.WideShapes Go.ChangeAt Go.RowKit
def IsRow (k : IntKind) (w : World) (a : Option Addr) (len cap : Nat) (zs : List Int) : Prop :=
 (a = none ∧ len = 0 ∧ cap = 0 ∧ zs = []) ∨
 ∃ x, a = some x ∧ len ≤ cap ∧ cap ≤ maxLen ∧ zs.length = cap ∧ (∀ i, i < zs.length → w.cell? (x.add i) = some (.int k (zs.getD i 0))) ∧ ∀ n ∈ zs, (Lit.int k n).wf = true
theorem IsRow.lenLe {k : IntKind} {w : World} {a : Option Addr} {len cap : Nat} {zs : List Int} (h : IsRow k w a len cap zs) : len ≤ maxLen := by
 rcases h with ⟨_, h, _, _⟩ | ⟨x, ha, hl, hm, _⟩
 ·rw [h]; exact Nat.zero_le _
 ·exact Nat.le_trans hl hm
end Go.Proofs.Ytedncfcmhaaobaa
namespace Go.Proofs.Ytedncfcmhaaobaa
open Go.ChangeShapes Go.WideShapes Go.ChangeAt Go.RowKit
def atN (len : Nat) (zs : List Int) (i n : Nat) : Nat := if len = 0 then i * 7 % n else ((zs.getD (i % len) 0 * 31 + zs.getD ((i + 1) % len) 0 + ((i / len : Nat) : Int)) % (n : Int)).toNat
theorem atN_lt (len : Nat) (zs : List Int) (i n : Nat) (hn : 0 < n) : atN len zs i n < n := by
 unfold atN
 split
 ·exact Nat.mod_lt _ hn
 ·have l1 := Int.emod_lt_of_pos (zs.getD (i % len) 0 * 31 + zs.getD ((i + 1) % len) 0 + ((i / len : Nat) : Int)) (show (0 : Int) < n by omega)
  omega
theorem at_is (a : Option Addr) (len cap : Nat) (zs : List Int) (w : World) (hr : IsRow .u8 w a len cap zs) (i n : Nat) (hi' : i ≤ 100000) (hn : 2 ≤ n) (hn' : n ≤ 100000) :
  Calls Try.prog 6 #[.slice a len cap, .int .i64 (i : Int), .int .i64 (n : Int)] w fun e w' => e = .returned (.int .i64 ((atN len zs i n : Nat) : Int)) ∧ ∃ q, w' = w.drewN q := by
 rcases hr with ⟨rfl, rfl, rfl, rfl⟩ | ⟨x, rfl, hl, hm, hz, hcell, hwz⟩
 ·go_enter Try.func6, Try.ntmps6
  go_wp2
  go_ret
  exact ⟨by unfold atN; rw [if_pos rfl]; rfl, 0, rfl⟩
 ·unfold maxLen at hm
  by_cases h0 : len = 0
  ·subst h0
   go_enter Try.func6, Try.ntmps6
   go_wp2
   go_ret
   exact ⟨by unfold atN; rw [if_pos rfl]; rfl, 0, rfl⟩
  ·obtain ⟨b, off, rfl, hc⟩ := ints_at hcell (by omega)
   have hne : ((len : Int) == 0) = false := by simp; omega
   have m1 : i % len < len := Nat.mod_lt _ (by omega)
   have m2 : (i + 1) % len < len := Nat.mod_lt _ (by omega)
   have c1 := hc (i % len) (by omega)
   have c2 := hc ((i + 1) % len) (by omega)
   have z1 : 0 ≤ zs.getD (i % len) 0 ∧ zs.getD (i % len) 0 ≤ 255 := by simpa using range_u8 hwz (i % len)
   have z2 : 0 ≤ zs.getD ((i + 1) % len) 0 ∧ zs.getD ((i + 1) % len) 0 ≤ 255 := by simpa using range_u8 hwz ((i + 1) % len)
   have HR : Hid (atN len zs i n = ((zs.getD (i % len) 0 * 31 + zs.getD ((i + 1) % len) 0 + ((i / len : Nat) : Int)) % (n : Int)).toNat) := by show atN len zs i n = _; unfold atN; rw [if_neg h0]
   generalize atN len zs i n = R at *
   generalize zs.getD (i % len) 0 = A at *
   generalize zs.getD ((i + 1) % len) 0 = B at *
   clear hcell hwz hz hc
   have q1 : (i : Int).tmod len = ((i % len : Nat) : Int) := (Int.ofNat_tmod i len).symm
   have q2 : ((i : Int) + 1).tmod len = (((i + 1) % len : Nat) : Int) := (Int.ofNat_tmod (i + 1) len).symm
   have q3 : (i : Int).tdiv len = ((i / len : Nat) : Int) := (Int.ofNat_tdiv i len).symm
   have d1 : i / len ≤ 100000 := Nat.le_trans (Nat.div_le_self _ _) (by omega)
   generalize i % len = I at *
   generalize (i + 1) % len = J at *
   generalize i / len = D at *
   go_enter Try.func6, Try.ntmps6
   go_wp2
   go_quiet (fail)
   go_wp2
   go_ret
   have l1 := Int.emod_lt_of_pos (A * 31 + B + D) (show (0 : Int) < n by omega)
   have l2 := Int.emod_nonneg (A * 31 + B + D) (show (n : Int) ≠ 0 by omega)
   refine ⟨?_, _, rfl⟩
   rw [HR.out, Int.toNat_of_nonneg l2]; rfl
end Go.Proofs.Ytedncfcmhaaobaa
namespace Go.Proofs.Ytedncfcmhaaobaa
open Go.ChangeShapes Go.WideShapes Go.ChangeAt Go.RowKit
def Code8 (w : World) (a : Option Addr) (len : Nat) (z : Nat → Nat) : Prop := ∀ i, i < len → ∃ cb off, a = some ⟨cb, off, none⟩ ∧ w.cell? ⟨cb, off + i, none⟩ = some (.int .u8 (z i : Nat))
theorem Code8.opened {w : World} {a : Option Addr} {n : Nat} {f : Nat → Nat} (h : Code8 w a n f) (hn : 0 < n) :
  ∃ b off, a = some ⟨b, off, none⟩ ∧ ∀ i, i < n → w.cell? ⟨b, off + i, none⟩ = some (.int .u8 (f i : Nat)) := by
 obtain ⟨b, off, rfl, _⟩ := h 0 hn
 refine ⟨b, off, rfl, fun i hi => ?_⟩
 obtain ⟨b', off', hab, hc⟩ := h i hi
 cases hab
 exact hc
theorem Code8.below {w w' : World} {a : Option Addr} {n : Nat} {f : Nat → Nat} (h : Code8 w a n f) (hb : Below w.heap.size w w') : Code8 w' a n f := fun i hi => by
 obtain ⟨b, off, ha, hc⟩ := h i hi
 exact ⟨b, off, ha, by rw [hb.cell (strBlock hc)]; exact hc⟩
theorem code8_of_row {w : World} {a : Option Addr} {len cap : Nat} {zs : List Int} (h : IsRow .u8 w a len cap zs) : ∃ z : Nat → Nat, (∀ i, z i < 256) ∧ Code8 w a len z := by
 rcases h with ⟨rfl, rfl, rfl, rfl⟩ | ⟨x, rfl, hl, hm, hz, hcell, hwz⟩
 ·exact ⟨fun _ => 0, fun _ => by show 0 < 256; omega, fun i hi => absurd hi (by omega)⟩
 ·have r : ∀ i, 0 ≤ zs.getD i 0 ∧ zs.getD i 0 ≤ 255 := fun i => by simpa using range_u8 hwz i
  refine ⟨fun i => (zs.getD i 0).toNat, fun i => by have := r i; show (zs.getD i 0).toNat < 256; omega, fun i hi => ?_⟩
  obtain ⟨b, off, rfl, hc⟩ := ints_at hcell (by omega)
  refine ⟨b, off, rfl, ?_⟩
  rw [hc i (by omega)]
  have := r i
  rw [show (((zs.getD i 0).toNat : Nat) : Int) = zs.getD i 0 from by omega]
end Go.Proofs.Ytedncfcmhaaobaa
namespace Go.Proofs.Ytedncfcmhaaobaa
open Go.ChangeShapes Go.WideShapes Go.RowKit
end Go.Proofs.Ytedncfcmhaaobaa
namespace Go.Proofs.Ytedncfcmhaaobaa
open Go.ChangeShapes Go.WideShapes Go.ChangeAt Go.RowKit
def drawB (len : Nat) (z : Nat → Nat) (at_ seed : Nat) : Nat × Nat :=
 if at_ + 1 ≤ len then (z at_, (seed * 31 + z at_ + 7) % 2147483648) else if 3000 < at_ + 1 then (0, seed) else ((seed * 1103515245 + 12345) % 2147483648 / 65536 % 256, (seed * 1103515245 + 12345) % 2147483648)
theorem drawB_lt {len : Nat} {z : Nat → Nat} (hz : ∀ i, z i < 256) {at_ seed : Nat} (hs : seed < 2147483648) : (drawB len z at_ seed).1 < 256 ∧ (drawB len z at_ seed).2 < 2147483648 := by
 unfold drawB
 split
 ·exact ⟨hz _, Nat.mod_lt _ (by omega)⟩
 ·split
  ·exact ⟨by omega, hs⟩
  ·exact ⟨Nat.mod_lt _ (by omega), Nat.mod_lt _ (by omega)⟩
structure Src (w : World) (b : Nat) (a : Option Addr) (len cap at_ seed : Nat) : Prop where
 code : w.cell? ⟨b, 0, none⟩ = some (.slice a len cap)
 at1 : w.cell? ⟨b, 1, none⟩ = some (.int .i64 (at_ : Nat))
 seed2 : w.cell? ⟨b, 2, none⟩ = some (.int .i64 (seed : Nat))
 free1 : w.frozen? ⟨b, 1, none⟩ = false
 free2 : w.frozen? ⟨b, 2, none⟩ = false
theorem Src.lt {w : World} {b : Nat} {a : Option Addr} {len cap at_ seed : Nat} (h : Src w b a len cap at_ seed) : b < w.heap.size := strBlock h.code
theorem OnlyB.drewN {b : Nat} {w w' : World} (h : OnlyB b w w') (q : Nat) : OnlyB b w (w'.drewN q) := ⟨h.os, h.tape, h.output, h.size, h.block⟩
set_option maxRecDepth 100000 in
set_option maxHeartbeats 2000000 in
theorem byte_any (b : Nat) (a : Option Addr) (len cap at_ seed : Nat) (z : Nat → Nat) (hz : ∀ i, z i < 256) (hat : at_ ≤ 100000000) (hs : seed < 2147483648) (hl : len ≤ maxLen) (hsep : ∀ x, 0 < len → a = some x → x.block ≠ b) (w : World) (h : Src w b a len cap at_ seed) (hc : Code8 w a len z) :
  Calls Try.prog 89 #[.pointer (some ⟨b, 0, none⟩)] w fun e w' => e = .returned (.int .i64 ((drawB len z at_ seed).1 : Nat)) ∧ Src w' b a len cap (at_ + 1) (drawB len z at_ seed).2 ∧ OnlyB b w w' := by
 obtain ⟨h0, h1, h2, f1, f2⟩ := h
 have hl' : (len : Int) ≤ 9223372036854775807 := by unfold maxLen at hl; omega
 by_cases hin : at_ + 1 ≤ len
 ·obtain ⟨cb, off, rfl, hcell⟩ := hc.opened (by omega)
  have hne : cb ≠ b := hsep _ (by omega) rfl
  have c1 := hcell at_ (by omega)
  have lz := hz at_
  have DR : Hid (drawB len z at_ seed = (z at_, (seed * 31 + z at_ + 7) % 2147483648)) := by show drawB _ _ _ _ = _; unfold drawB; rw [if_pos hin]
  have x1 : (at_ : Int) + 1 ≤ (len : Int) := by omega
  clear hc hcell hsep hz
  generalize z at_ = Z at *
  have em : ((seed : Int) * 31 + (Z : Int) + 7) % 2147483648 = (((seed * 31 + Z + 7) % 2147483648 : Nat) : Int) := by omega
  go_enter Try.func89, Try.ntmps89
  go_wp2
  have k0 : (w.setCell ⟨b, 1, none⟩ (.int .i64 ((at_ : Int) + 1))).cell? ⟨b, 0, none⟩ = some (.slice (some ⟨cb, off, none⟩) len cap) := by rw [World.cell?_setCell_other _ _ _ _ (by intro e; cases e)]; exact h0
  have k1 : (w.setCell ⟨b, 1, none⟩ (.int .i64 ((at_ : Int) + 1))).cell? ⟨b, 1, none⟩ = some (.int .i64 ((at_ : Int) + 1)) := World.cell?_setCell_same _ _ _ h1
  have k2 : (w.setCell ⟨b, 1, none⟩ (.int .i64 ((at_ : Int) + 1))).cell? ⟨b, 2, none⟩ = some (.int .i64 (seed : Nat)) := by rw [World.cell?_setCell_other _ _ _ _ (by intro e; cases e)]; exact h2
  have k3 : (w.setCell ⟨b, 1, none⟩ (.int .i64 ((at_ : Int) + 1))).cell? ⟨cb, off + at_, none⟩ = some (.int .u8 (Z : Nat)) := by rw [World.cell?_setCell_other _ _ _ _ (by intro e; exact hne (congrArg Addr.block e).symm)]; exact c1
  have g1 : (w.setCell ⟨b, 1, none⟩ (.int .i64 ((at_ : Int) + 1))).frozen? ⟨b, 1, none⟩ = false := by rw [World.frozen?_setCell]; exact f1
  have g2 : (w.setCell ⟨b, 1, none⟩ (.int .i64 ((at_ : Int) + 1))).frozen? ⟨b, 2, none⟩ = false := by rw [World.frozen?_setCell]; exact f2
  have HO : Hid (OnlyB b w (w.setCell ⟨b, 1, none⟩ (.int .i64 ((at_ : Int) + 1)))) := (OnlyB.refl b w).setCell 1 _
  clear h0 h1 h2 f1 f2 c1
  generalize (w.setCell ⟨b, 1, none⟩ (.int .i64 ((at_ : Int) + 1))) = w1 at *
  go_quiet (fail)
  rw [← World.cell?_drewN (n := nq)] at k0 k1 k2 k3
  rw [← World.frozen?_drewN (n := nq)] at g1 g2
  have HO2 : Hid (OnlyB b w (w1.drewN nq)) := HO.out.drewN nq
  clear HO
  generalize w1.drewN nq = w2 at *
  go_wp2
  have et : ((at_ : Int) + 1 - 1) = (at_ : Int) := by omega
  have x2 : (at_ : Int) < (len : Int) := by omega
  have x3 : (0 : Int) ≤ (at_ : Int) := by omega
  have ew : IntKind.i64.wrap (at_ : Int) = (at_ : Int) := IntWalk.i64_in _ ⟨by omega, by omega⟩
  have wS : IntKind.i64.wrap ((seed : Int) * 31) = (seed : Int) * 31 := IntWalk.i64_in _ ⟨by omega, by omega⟩
  have wZ : IntKind.i64.wrap (Z : Int) = (Z : Int) := IntWalk.i64_in _ ⟨by omega, by omega⟩
  have wA : IntKind.i64.wrap ((seed : Int) * 31 + (Z : Int)) = (seed : Int) * 31 + (Z : Int) := IntWalk.i64_in _ ⟨by omega, by omega⟩
  have wB : IntKind.i64.wrap ((seed : Int) * 31 + (Z : Int) + 7) = (seed : Int) * 31 + (Z : Int) + 7 := IntWalk.i64_in _ ⟨by omega, by omega⟩
  have tm : ((seed : Int) * 31 + (Z : Int) + 7).tmod 2147483648 = (((seed * 31 + Z + 7) % 2147483648 : Nat) : Int) := by
   rw [show (seed : Int) * 31 + (Z : Int) + 7 = ((seed * 31 + Z + 7 : Nat) : Int) from by omega]; exact (Int.ofNat_tmod (seed * 31 + Z + 7) 2147483648).symm
  generalize (seed * 31 + Z + 7) % 2147483648 = S' at *
  go_cut [0] (fun p wx => p = .pointer (some ⟨b, 0, none⟩) ∧ wx = (w2.setCell ⟨b, 2, none⟩ (.int .i64 (S' : Nat))).drew)
  case first =>
   go_region
   all_goals (go_wp2_with fail; go_meet; exact ⟨rfl, rfl⟩)
  case rest =>
   obtain ⟨rfl, rfl⟩ := hcut
   have q0 : ((w2.setCell ⟨b, 2, none⟩ (.int .i64 (S' : Nat))).drew).cell? ⟨b, 0, none⟩ = some (.slice (some ⟨cb, off, none⟩) len cap) := by
    show (w2.setCell ⟨b, 2, none⟩ (.int .i64 (S' : Nat))).cell? _ = _
    rw [World.cell?_setCell_other _ _ _ _ (by intro e; cases e)]; exact k0
   have q1 : ((w2.setCell ⟨b, 2, none⟩ (.int .i64 (S' : Nat))).drew).cell? ⟨b, 1, none⟩ = some (.int .i64 ((at_ : Int) + 1)) := by
    show (w2.setCell ⟨b, 2, none⟩ (.int .i64 (S' : Nat))).cell? _ = _
    rw [World.cell?_setCell_other _ _ _ _ (by intro e; cases e)]; exact k1
   have q2 : ((w2.setCell ⟨b, 2, none⟩ (.int .i64 (S' : Nat))).drew).cell? ⟨b, 2, none⟩ = some (.int .i64 (S' : Nat)) := by
    show (w2.setCell ⟨b, 2, none⟩ (.int .i64 (S' : Nat))).cell? _ = _
    exact World.cell?_setCell_same _ _ _ k2
   have q3 : ((w2.setCell ⟨b, 2, none⟩ (.int .i64 (S' : Nat))).drew).cell? ⟨cb, off + at_, none⟩ = some (.int .u8 (Z : Nat)) := by
    show (w2.setCell ⟨b, 2, none⟩ (.int .i64 (S' : Nat))).cell? _ = _
    rw [World.cell?_setCell_other _ _ _ _ (by intro e; exact hne (congrArg Addr.block e).symm)]; exact k3
   have q4 : ((w2.setCell ⟨b, 2, none⟩ (.int .i64 (S' : Nat))).drew).frozen? ⟨b, 1, none⟩ = false := by
    show (w2.setCell ⟨b, 2, none⟩ (.int .i64 (S' : Nat))).frozen? _ = _
    rw [World.frozen?_setCell]; exact g1
   have q5 : ((w2.setCell ⟨b, 2, none⟩ (.int .i64 (S' : Nat))).drew).frozen? ⟨b, 2, none⟩ = false := by
    show (w2.setCell ⟨b, 2, none⟩ (.int .i64 (S' : Nat))).frozen? _ = _
    rw [World.frozen?_setCell]; exact g2
   have HO3 : Hid (OnlyB b w ((w2.setCell ⟨b, 2, none⟩ (.int .i64 (S' : Nat))).drew)) := (HO2.out.setCell 2 _).drewN 1
   have HS3 : Hid (Src ((w2.setCell ⟨b, 2, none⟩ (.int .i64 (S' : Nat))).drew) b (some ⟨cb, off, none⟩) len cap (at_ + 1) S') := ⟨q0, q1, q2, q4, q5⟩
   clear k0 k1 k2 k3 g1 g2 HO2 q2 q4 q5
   generalize (w2.setCell ⟨b, 2, none⟩ (.int .i64 (S' : Nat))).drew = w3 at *
   go_wp2_with fail
   go_quiet (fail)
   go_wp2
   go_ret
   rw [DR.out]
   exact ⟨rfl, ⟨HS3.out.code, HS3.out.at1, HS3.out.seed2, HS3.out.free1, HS3.out.free2⟩, HO3.out.drewN _⟩
 ·have x1 : ¬ (at_ : Int) + 1 ≤ (len : Int) := by omega
  have DR0 : Hid (drawB len z at_ seed = if 3000 < at_ + 1 then (0, seed) else ((seed * 1103515245 + 12345) % 2147483648 / 65536 % 256, (seed * 1103515245 + 12345) % 2147483648)) := by show drawB _ _ _ _ = _; unfold drawB; rw [if_neg hin]
  clear hc hsep hz hin
  go_enter Try.func89, Try.ntmps89
  go_wp2
  have k0 : (w.setCell ⟨b, 1, none⟩ (.int .i64 ((at_ : Int) + 1))).cell? ⟨b, 0, none⟩ = some (.slice a len cap) := by rw [World.cell?_setCell_other _ _ _ _ (by intro e; cases e)]; exact h0
  have k1 : (w.setCell ⟨b, 1, none⟩ (.int .i64 ((at_ : Int) + 1))).cell? ⟨b, 1, none⟩ = some (.int .i64 ((at_ : Int) + 1)) := World.cell?_setCell_same _ _ _ h1
  have k2 : (w.setCell ⟨b, 1, none⟩ (.int .i64 ((at_ : Int) + 1))).cell? ⟨b, 2, none⟩ = some (.int .i64 (seed : Nat)) := by rw [World.cell?_setCell_other _ _ _ _ (by intro e; cases e)]; exact h2
  have g1 : (w.setCell ⟨b, 1, none⟩ (.int .i64 ((at_ : Int) + 1))).frozen? ⟨b, 1, none⟩ = false := by rw [World.frozen?_setCell]; exact f1
  have g2 : (w.setCell ⟨b, 1, none⟩ (.int .i64 ((at_ : Int) + 1))).frozen? ⟨b, 2, none⟩ = false := by rw [World.frozen?_setCell]; exact f2
  have HO : Hid (OnlyB b w (w.setCell ⟨b, 1, none⟩ (.int .i64 ((at_ : Int) + 1)))) := (OnlyB.refl b w).setCell 1 _
  clear h0 h1 h2 f1 f2
  generalize (w.setCell ⟨b, 1, none⟩ (.int .i64 ((at_ : Int) + 1))) = w1 at *
  go_quiet (fail)
  rw [← World.cell?_drewN (n := nq)] at k0 k1 k2
  rw [← World.frozen?_drewN (n := nq)] at g1 g2
  have HO2 : Hid (OnlyB b w (w1.drewN nq)) := HO.out.drewN nq
  clear HO
  generalize w1.drewN nq = w2 at *
  have HS2 : Hid (Src w2 b a len cap (at_ + 1) seed) := ⟨k0, k1, k2, g1, g2⟩
  by_cases hbig : 3000 < at_ + 1
  ·have x2 : (3000 : Int) < (at_ : Int) + 1 := by omega
   have DR : Hid (drawB len z at_ seed = (0, seed)) := by show drawB _ _ _ _ = _; rw [DR0.out, if_pos hbig]
   go_wp2
   go_ret
   rw [DR.out]
   exact ⟨rfl, HS2.out, HO2.out⟩
  ·have x2 : ¬ (3000 : Int) < (at_ : Int) + 1 := by omega
   have DR : Hid (drawB len z at_ seed = ((seed * 1103515245 + 12345) % 2147483648 / 65536 % 256, (seed * 1103515245 + 12345) % 2147483648)) := by show drawB _ _ _ _ = _; rw [DR0.out, if_neg hbig]
   have wS : IntKind.i64.wrap ((seed : Int) * 1103515245) = (seed : Int) * 1103515245 := IntWalk.i64_in _ ⟨by omega, by omega⟩
   have wA : IntKind.i64.wrap ((seed : Int) * 1103515245 + 12345) = (seed : Int) * 1103515245 + 12345 := IntWalk.i64_in _ ⟨by omega, by omega⟩
   have tm : ((seed : Int) * 1103515245 + 12345).tmod 2147483648 = (((seed * 1103515245 + 12345) % 2147483648 : Nat) : Int) := by
    rw [show (seed : Int) * 1103515245 + 12345 = ((seed * 1103515245 + 12345 : Nat) : Int) from by omega]; exact (Int.ofNat_tmod (seed * 1103515245 + 12345) 2147483648).symm
   have em : ((seed : Int) * 1103515245 + 12345) % 2147483648 = (((seed * 1103515245 + 12345) % 2147483648 : Nat) : Int) := by omega
   have hS' : (seed * 1103515245 + 12345) % 2147483648 < 2147483648 := Nat.mod_lt _ (by omega)
   generalize (seed * 1103515245 + 12345) % 2147483648 = S' at *
   have HS3 : Hid (Src (w2.setCell ⟨b, 2, none⟩ (.int .i64 (S' : Nat))) b a len cap (at_ + 1) S') :=
    ⟨by rw [World.cell?_setCell_other _ _ _ _ (by intro e; cases e)]; exact k0, by rw [World.cell?_setCell_other _ _ _ _ (by intro e; cases e)]; exact k1, World.cell?_setCell_same _ _ _ k2, by rw [World.frozen?_setCell]; exact g1, by rw [World.frozen?_setCell]; exact g2⟩
   go_wp2
   go_ret
   rw [DR.out]
   exact ⟨by go_num, HS3.out, HO2.out.setCell 2 _⟩
set_option maxRecDepth 100000 in
theorem next_any (n : Nat) (hn : 2 ≤ n) (hn' : n ≤ 256) (b : Nat) (a : Option Addr) (len cap at_ seed : Nat) (z : Nat → Nat) (hz : ∀ i, z i < 256) (hat : at_ ≤ 100000000) (hs : seed < 2147483648) (hl : len ≤ maxLen) (hsep : ∀ x, 0 < len → a = some x → x.block ≠ b) (w : World) (h : Src w b a len cap at_ seed) (hc : Code8 w a len z) :
  Calls Try.prog 55 #[.pointer (some ⟨b, 0, none⟩), .int .i64 (n : Int)] w fun e w' => e = .returned (.int .i64 (((drawB len z at_ seed).1 % n : Nat) : Int)) ∧ Src w' b a len cap (at_ + 1) (drawB len z at_ seed).2 ∧ OnlyB b w w' := by
 have BY : Hid (∀ w : World, Src w b a len cap at_ seed → Code8 w a len z → Calls Try.prog 89 #[.pointer (some ⟨b, 0, none⟩)] w fun e w' => e = .returned (.int .i64 ((drawB len z at_ seed).1 : Nat)) ∧ Src w' b a len cap (at_ + 1) (drawB len z at_ seed).2 ∧ OnlyB b w w') := fun w h hc => byte_any b a len cap at_ seed z hz hat hs hl hsep w h hc
 have lb := (drawB_lt (len := len) hz (at_ := at_) hs).1
 have H : Hid (Src w b a len cap at_ seed) := h
 have HC : Hid (Code8 w a len z) := hc
 have x1 : ¬ (n : Int) ≤ 1 := by omega
 have x2 : (n : Int) ≤ 256 := by omega
 clear h hc hsep hz
 generalize (drawB len z at_ seed).1 = V at *
 generalize (drawB len z at_ seed).2 = S at *
 have em : ((V : Int)).tmod (n : Int) = ((V % n : Nat) : Int) := (Int.ofNat_tmod V n).symm
 have hn0 : ((n : Int) == 0) = false := by rw [beq_eq_false_iff_ne]; omega
 go_enter Try.func55, Try.ntmps55
 go_wp2_with fail
 refine (BY.out _ H.out HC.out).mono ?_
 rintro e w1 ⟨rfl, hs1, ho1⟩
 have HS1 : Hid (Src w1 b a len cap (at_ + 1) S) := hs1
 have HO1 : Hid (OnlyB b w w1) := ho1
 clear hs1 ho1
 go_wp2
 go_ret
 exact ⟨by go_num, HS1.out, HO1.out⟩
theorem source_any (a : Option Addr) (len cap : Nat) (hl : len ≤ maxLen) (w : World) :
  Calls Try.prog 27 #[.slice a len cap] w fun e w' => e = .returned (.pointer (some ⟨w.heap.size, 0, none⟩)) ∧ Src w' w.heap.size a len cap 0 (len % 1000) ∧ Below w.heap.size w w' := by
 have hl' : (len : Int) ≤ 9223372036854775807 := by unfold maxLen at hl; omega
 have em : (len : Int) % 1000 = ((len % 1000 : Nat) : Int) := by omega
 have et : (len : Int).tmod 1000 = ((len % 1000 : Nat) : Int) := (Int.ofNat_tmod len 1000).symm
 generalize len % 1000 = M at *
 go_enter Try.func27, Try.ntmps27
 go_wp2
 go_ret
 refine ⟨rfl, ⟨?_, ?_, ?_, ?_, ?_⟩, (Below.refl _ _).alloc (Nat.le_refl _) _⟩
 ·simp
 ·simp
 ·simp
 ·simp
 ·simp
end Go.Proofs.Ytedncfcmhaaobaa
namespace Go.Proofs.Ytedncfcmhaaobaa
open Go.ChangeShapes Go.WideShapes Go.ChangeAt Go.RowKit
set_option linter.unusedVariables false
def SrcA (w : World) (b : Nat) (a : Option Addr) (len cap A : Nat) : Prop := ∃ at_ seed, at_ ≤ A ∧ seed < 2147483648 ∧ Src w b a len cap at_ seed
theorem SrcA.mono {w : World} {b : Nat} {a : Option Addr} {len cap A A' : Nat} (h : SrcA w b a len cap A) (hA : A ≤ A') : SrcA w b a len cap A' := by
 obtain ⟨x, y, h1, h2, h3⟩ := h
 exact ⟨x, y, Nat.le_trans h1 hA, h2, h3⟩
theorem SrcA.ofBlock {w w' : World} {b : Nat} {a : Option Addr} {len cap A : Nat} (h : SrcA w b a len cap A) (hk : w'.heap[b]? = w.heap[b]?) : SrcA w' b a len cap A := by
 obtain ⟨x, y, h1, h2, hs⟩ := h
 exact ⟨x, y, h1, h2, by rw [World.cell?_of_block (w := w) hk]; exact hs.code, by rw [World.cell?_of_block (w := w) hk]; exact hs.at1, by rw [World.cell?_of_block (w := w) hk]; exact hs.seed2, by rw [World.frozen?_of_block (w := w) hk]; exact hs.free1, by rw [World.frozen?_of_block (w := w) hk]; exact hs.free2⟩
theorem SrcA.belowAt {w w' : World} {B b : Nat} {a : Option Addr} {len cap A : Nat} (h : SrcA w b a len cap A) (hb : Below B w w') (hB : b < B) : SrcA w' b a len cap A := h.ofBlock (hb.block b hB)
theorem SrcA.load0 {w : World} {b : Nat} {a : Option Addr} {len cap A : Nat} (h : SrcA w b a len cap A) : w.cell? ⟨b, 0, none⟩ = some (.slice a len cap) := by
 obtain ⟨x, y, h1, h2, hs⟩ := h
 exact hs.code
theorem next_ex (n : Nat) (hn : 2 ≤ n) (hn' : n ≤ 256) (b : Nat) (a : Option Addr) (len cap A : Nat) (z : Nat → Nat) (hz : ∀ i, z i < 256) (hA : A ≤ 100000) (hl : len ≤ maxLen) (hsep : ∀ x, 0 < len → a = some x → x.block ≠ b) (w : World) (h : SrcA w b a len cap A) (hc : Code8 w a len z) :
  Calls Try.prog 55 #[.pointer (some ⟨b, 0, none⟩), .int .i64 (n : Int)] w fun e w' => (∃ r : Nat, r < n ∧ e = .returned (.int .i64 (r : Int))) ∧ SrcA w' b a len cap (A + 1) ∧ OnlyB b w w' := by
 obtain ⟨x, y, h1, h2, h3⟩ := h
 refine (next_any n hn hn' b a len cap x y z hz (by omega) h2 hl hsep w h3 hc).mono ?_
 rintro e w' ⟨he, hs, ho⟩
 exact ⟨⟨_, Nat.mod_lt _ (by omega), he⟩, ⟨x + 1, _, by omega, (drawB_lt hz h2).2, hs⟩, ho⟩
end Go.Proofs.Ytedncfcmhaaobaa
