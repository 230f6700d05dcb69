/-
  Texts of the proof, joined: At, Code8, SrcL, AtIs, ByteS, Words, WRows, Spread, After, Slices, PadS, Num, Txt, Rdr.
-/
import Derived.Test.YtpngjkhncfbnpaaDoorRows
import Derived.WalkKit
import Derived.ProofKit
import Derived.OpenShut
import Derived.ShutString
import Derived.ChangeOld
import Derived.Below
import Derived.WalkSmall
import Derived.Deep.QuietTactic
import Derived.BigQuiet
import Derived.Test.YtpngjkhncfbnpaaDoorU01
import Derived.Test.YtpngjkhncfbnpaaDoorU05
import Derived.Laws.OwnMore
import Derived.OwnWalk
import Derived.Laws.IdiomStrings
import Derived.Deep.RegionHeld3
import Derived.Deep.AppendLies
import Derived.Laws.DeepStrings4
import Derived.Deep.DeepCutAuto
import Derived.Deep.Cut
import Derived.Deep.CutRange
import Derived.Test.YtpngjkhncfbnpaaDoorU07
import Derived.BigRegion
import Derived.Deep.OwnRows
import Derived.Test.YtpngjkhncfbnpaaDoorU06
import Derived.Deep.RegionWith
import Derived.Lib.SliceRun
import Derived.Lib.AppendZeros
import Derived.Laws.IdiomCopy
import Derived.LoopN
import Derived.Laws.BytesArg
import Derived.Test.YtpngjkhncfbnpaaDoorU08
namespace Go.Proofs.YtpngjkhncfbnpaaDoor
open Go.ChangeShapes Go.WideShapes Go.ChangeAt Go.RowKit
def IsRow (k : IntKind) (w : World) (a : Option Addr) (len cap : Nat) (zs : List Int) : Prop :=
  (a = none ∧ len = 0 ∧ cap = 0 ∧ zs = []) ∨
  ∃ x, a = some x ∧ len ≤ cap ∧ cap ≤ maxLen ∧ zs.length = cap ∧ (∀ i, i < zs.length → w.cell? (x.add i) = some (.int k (zs.getD i 0))) ∧ ∀ n ∈ zs, (Lit.int k n).wf = true
theorem IsRow.lenLe {k : IntKind} {w : World} {a : Option Addr} {len cap : Nat} {zs : List Int} (h : IsRow k w a len cap zs) : len ≤ maxLen := by
  rcases h with ⟨_, h, _, _⟩ | ⟨x, ha, hl, hm, _⟩
  · rw [h]; exact Nat.zero_le _
  · exact Nat.le_trans hl hm
end Go.Proofs.YtpngjkhncfbnpaaDoor
namespace Go.Proofs.YtpngjkhncfbnpaaDoor
open Go.ChangeShapes Go.WideShapes Go.ChangeAt Go.RowKit
def Code8 (w : World) (a : Option Addr) (len : Nat) (z : Nat → Nat) : Prop := ∀ i, i < len → ∃ cb off, a = some ⟨cb, off, none⟩ ∧ w.cell? ⟨cb, off + i, none⟩ = some (.int .u8 (z i : Nat))
theorem Code8.opened {w : World} {a : Option Addr} {n : Nat} {f : Nat → Nat} (h : Code8 w a n f) (hn : 0 < n) :
    ∃ b off, a = some ⟨b, off, none⟩ ∧ ∀ i, i < n → w.cell? ⟨b, off + i, none⟩ = some (.int .u8 (f i : Nat)) := by
  obtain ⟨b, off, rfl, _⟩ := h 0 hn
  refine ⟨b, off, rfl, fun i hi => ?_⟩
  obtain ⟨b', off', hab, hc⟩ := h i hi
  cases hab
  exact hc
theorem Code8.below {w w' : World} {a : Option Addr} {n : Nat} {f : Nat → Nat} (h : Code8 w a n f) (hb : Below w.heap.size w w') : Code8 w' a n f := fun i hi => by
  obtain ⟨b, off, ha, hc⟩ := h i hi
  exact ⟨b, off, ha, by rw [hb.cell (strBlock hc)]; exact hc⟩
theorem Code8.onlyB {w w' : World} {a : Option Addr} {n b : Nat} {f : Nat → Nat} (h : Code8 w a n f) (ho : OnlyB b w w') (hs : ∀ x, 0 < n → a = some x → x.block ≠ b) : Code8 w' a n f := fun i hi => by
  obtain ⟨cb, off, ha, hc⟩ := h i hi
  exact ⟨cb, off, ha, by rw [World.cell?_of_block (w := w) (ho.block cb (strBlock hc) (hs _ (by omega) ha))]; exact hc⟩
theorem code8_of_row {w : World} {a : Option Addr} {len cap : Nat} {zs : List Int} (h : IsRow .u8 w a len cap zs) : ∃ z : Nat → Nat, (∀ i, z i < 256) ∧ Code8 w a len z := by
  rcases h with ⟨rfl, rfl, rfl, rfl⟩ | ⟨x, rfl, hl, hm, hz, hcell, hwz⟩
  · exact ⟨fun _ => 0, fun _ => by show 0 < 256; omega, fun i hi => absurd hi (by omega)⟩
  · have r : ∀ i, 0 ≤ zs.getD i 0 ∧ zs.getD i 0 ≤ 255 := fun i => by simpa using range_u8 hwz i
    refine ⟨fun i => (zs.getD i 0).toNat, fun i => by have := r i; show (zs.getD i 0).toNat < 256; omega, fun i hi => ?_⟩
    obtain ⟨b, off, rfl, hc⟩ := ints_at hcell (by omega)
    refine ⟨b, off, rfl, ?_⟩
    rw [hc i (by omega)]
    have := r i
    rw [show (((zs.getD i 0).toNat : Nat) : Int) = zs.getD i 0 from by omega]
theorem Code8.congr {w : World} {a : Option Addr} {n : Nat} {f g : Nat → Nat} (h : Code8 w a n f) (e : ∀ i, i < n → f i = g i) : Code8 w a n g := fun i hi => by
  obtain ⟨b, off, ha, hc⟩ := h i hi
  exact ⟨b, off, ha, by rw [← e i hi]; exact hc⟩
theorem Code8.part {w : World} {a : Option Addr} {n m : Nat} {f : Nat → Nat} (h : Code8 w a n f) (hm : m ≤ n) : Code8 w a m f := fun i hi => h i (by omega)
theorem Code8.lt {w : World} {a : Option Addr} {n : Nat} {f : Nat → Nat} (h : Code8 w a n f) : ∀ x, 0 < n → a = some x → x.block < w.heap.size := fun x h0 hx => by
  obtain ⟨cb, off, ha, hh⟩ := h 0 h0
  rw [ha] at hx
  cases hx
  exact strBlock hh
theorem Code8.shift {w : World} {b off n : Nat} {f : Nat → Nat} (h : Code8 w (some ⟨b, off, none⟩) n f) (k : Nat) : Code8 w (some ⟨b, off + k, none⟩) (n - k) (fun i => f (k + i)) := fun i hi => by
  obtain ⟨b', off', ha, hc⟩ := h (k + i) (by omega)
  cases ha
  exact ⟨b, off + k, rfl, by rw [Nat.add_assoc]; exact hc⟩
def Own8 (w : World) (b n : Nat) (f : Nat → Nat) : Prop := ∃ (m : Nat) (g : Nat → Value), n ≤ m ∧ w.rowIs b 5 m g ∧ ∀ i, i < n → g i = .int .u8 (f i : Nat)
theorem Own8.cell {w : World} {b n : Nat} {f : Nat → Nat} (h : Own8 w b n f) {i : Nat} (hi : i < n) : w.cell? ⟨b, i, none⟩ = some (.int .u8 (f i : Nat)) := by
  obtain ⟨m, g, hm, hr, hg⟩ := h
  rw [hr.cell (by omega), hg i hi]
theorem Own8.lt {w : World} {b n : Nat} {f : Nat → Nat} (h : Own8 w b n f) : b < w.heap.size := by
  obtain ⟨m, g, hm, hr, hg⟩ := h
  exact hr.lt
theorem Own8.of_block {w w' : World} {b n : Nat} {f : Nat → Nat} (h : Own8 w b n f) (e : w'.heap[b]? = w.heap[b]?) : Own8 w' b n f := by
  obtain ⟨m, g, hm, hr, hg⟩ := h
  exact ⟨m, g, hm, hr.of_block e, hg⟩
theorem Own8.below {w w' : World} {b n : Nat} {f : Nat → Nat} (h : Own8 w b n f) (hb : Below w.heap.size w w') : Own8 w' b n f := h.of_block (hb.block b h.lt)
theorem Own8.onlyB {w w' : World} {b c n : Nat} {f : Nat → Nat} (h : Own8 w b n f) (ho : OnlyB c w w') (hne : b ≠ c) : Own8 w' b n f := h.of_block (ho.block b h.lt hne)
theorem Own8.code {w : World} {b n : Nat} {f : Nat → Nat} (h : Own8 w b n f) : Code8 w (some ⟨b, 0, none⟩) n f := fun i hi => ⟨b, 0, rfl, by rw [Nat.zero_add]; exact h.cell hi⟩
theorem own8_of_owned {w : World} {base : Nat} {v : Value} {n : Nat} {f : Nat → Nat} (h : w.ownsRow base 5 1 v n (bv n f)) (hn : 0 < n) :
    ∃ b cap, (base ≤ b ∧ n ≤ cap) ∧ v = .slice (some ⟨b, 0, none⟩) n cap ∧ Own8 w b n f := by
  obtain ⟨hl, ⟨rfl, rfl⟩ | ⟨g, cap, cur, rfl, hb, hh, hn', hm, hs, ht⟩⟩ := h
  · omega
  · refine ⟨g, cap, ⟨hb, hn'⟩, rfl, cap, fun i => cur.getD i undef, hn', ⟨cur, hh, by omega, fun i hi => ?_⟩, fun i hi => ?_⟩
    · have : i < cur.size := by omega
      simp [Array.getD, this]
    · have h1 : (cur.toList.take (n * 1))[i]? = some (.int .u8 (f i : Nat)) := by rw [ht]; exact bv_at hi
      rw [List.getElem?_take, if_pos (by omega), Array.getElem?_toList] at h1
      simp [Array.getD_eq_getD_getElem?, h1]
theorem Code8.at {w : World} {b o n : Nat} {f : Nat → Nat} (h : Code8 w (some ⟨b, o, none⟩) n f) {i : Nat} (hi : i < n) : w.cell? ⟨b, o + i, none⟩ = some (.int .u8 (f i : Nat)) := by
  obtain ⟨b', o', ha, hc⟩ := h i hi
  cases ha
  exact hc
theorem code8_of {w : World} {b o n : Nat} {f : Nat → Nat} (h : ∀ i, i < n → w.cell? ⟨b, o + i, none⟩ = some (.int .u8 (f i : Nat))) : Code8 w (some ⟨b, o, none⟩) n f := fun i hi => ⟨b, o, rfl, h i hi⟩
theorem bv_news {w : World} {b o n : Nat} {f : Nat → Nat} (h : Code8 w (some ⟨b, o, none⟩) n f) : ∀ j u, (bv n f)[j]? = some u → w.cell? ((⟨b, o, none⟩ : Addr).add j) = some u := fun j u hu => by
  have hj : j < n := by have := (List.getElem?_eq_some_iff.1 hu).1; rwa [bv_length] at this
  rw [bv_at hj] at hu
  cases hu
  rw [Addr.add_lit]
  exact h.at hj
theorem bv_one (n : Nat) (f : Nat → Nat) : ∀ u ∈ bv n f, u.oneCell' = true := fun u hu => by
  obtain ⟨i, _, rfl⟩ := List.mem_map.1 hu
  rfl
theorem bv_append (n m : Nat) (f g : Nat → Nat) : bv n f ++ bv m g = bv (n + m) (fun i => if i < n then f i else g (i - n)) := by
  apply List.ext_getElem?
  intro i
  by_cases h : i < n
  · rw [List.getElem?_append_left (by rw [bv_length]; exact h), bv_at h, bv_at (by omega), if_pos h]
  · rw [List.getElem?_append_right (by rw [bv_length]; omega), bv_length]
    by_cases h2 : i < n + m
    · rw [bv_at (by omega), bv_at h2, if_neg h]
    · rw [List.getElem?_eq_none (by rw [bv_length]; omega), List.getElem?_eq_none (by rw [bv_length]; omega)]
theorem bv_snoc (n : Nat) (f : Nat → Nat) : bv n f ++ [.int .u8 (f n : Nat)] = bv (n + 1) f := by
  unfold bv
  rw [List.range_succ, List.map_append]
  rfl
theorem own8_of_own {w : World} {base : Nat} {v : Value} {n : Nat} {f : Nat → Nat} (h : w.ownsRow base 5 1 v n (bv n f)) (hv : v ≠ .slice none 0 0) :
    ∃ b cap, (base ≤ b ∧ n ≤ cap) ∧ v = .slice (some ⟨b, 0, none⟩) n cap ∧ Own8 w b n f := by
  rcases Nat.eq_zero_or_pos n with rfl | hn
  · obtain ⟨hl, ⟨rfl, _⟩ | ⟨g, cap, cur, rfl, hb, hh, hn', hm, hs, ht⟩⟩ := h
    · exact absurd rfl hv
    · exact ⟨g, cap, ⟨hb, hn'⟩, rfl, cap, fun i => cur.getD i undef, hn', ⟨cur, hh, by omega, fun i hi => by
        have : i < cur.size := by omega
        simp [Array.getD, this]⟩, fun i hi => absurd hi (by omega)⟩
  · exact own8_of_owned h hn
end Go.Proofs.YtpngjkhncfbnpaaDoor
namespace Go.Proofs.YtpngjkhncfbnpaaDoor
open Go.ChangeShapes Go.WideShapes Go.ChangeAt Go.RowKit
def drawB (len : Nat) (z : Nat → Nat) (at_ seed : Nat) : Nat × Nat :=
  if at_ + 1 ≤ len then (z at_, (seed * 31 + z at_ + 7) % 2147483648) else if 3000 < at_ + 1 then (0, seed) else ((seed * 1103515245 + 12345) % 2147483648 / 65536 % 256, (seed * 1103515245 + 12345) % 2147483648)
theorem drawB_lt {len : Nat} {z : Nat → Nat} (hz : ∀ i, z i < 256) {at_ seed : Nat} (hs : seed < 2147483648) : (drawB len z at_ seed).1 < 256 ∧ (drawB len z at_ seed).2 < 2147483648 := by
  unfold drawB
  split
  · exact ⟨hz _, Nat.mod_lt _ (by omega)⟩
  · split
    · exact ⟨by omega, hs⟩
    · exact ⟨Nat.mod_lt _ (by omega), Nat.mod_lt _ (by omega)⟩
structure Src (w : World) (b : Nat) (a : Option Addr) (len cap at_ seed : Nat) : Prop where
  code : w.cell? ⟨b, 0, none⟩ = some (.slice a len cap)
  at1 : w.cell? ⟨b, 1, none⟩ = some (.int .i64 (at_ : Nat))
  seed2 : w.cell? ⟨b, 2, none⟩ = some (.int .i64 (seed : Nat))
  free1 : w.frozen? ⟨b, 1, none⟩ = false
  free2 : w.frozen? ⟨b, 2, none⟩ = false
theorem Src.lt {w : World} {b : Nat} {a : Option Addr} {len cap at_ seed : Nat} (h : Src w b a len cap at_ seed) : b < w.heap.size := strBlock h.code
theorem Src.below {w w' : World} {b : Nat} {a : Option Addr} {len cap at_ seed : Nat} (h : Src w b a len cap at_ seed) (hb : Below w.heap.size w w') : Src w' b a len cap at_ seed :=
  ⟨by rw [hb.cell (p := ⟨b, 0, none⟩) h.lt]; exact h.code, by rw [hb.cell (p := ⟨b, 1, none⟩) h.lt]; exact h.at1, by rw [hb.cell (p := ⟨b, 2, none⟩) h.lt]; exact h.seed2, by rw [hb.frozen (p := ⟨b, 1, none⟩) h.lt]; exact h.free1, by rw [hb.frozen (p := ⟨b, 2, none⟩) h.lt]; exact h.free2⟩
theorem OnlyB.trans {b : Nat} {w w' w'' : World} (h : OnlyB b w w') (k : OnlyB b w' w'') : OnlyB b w w'' :=
  ⟨k.os.trans h.os, k.tape.trans h.tape, k.output.trans h.output, Nat.le_trans h.size k.size, fun j hj hn => (k.block j (Nat.lt_of_lt_of_le hj h.size) hn).trans (h.block j hj hn)⟩
theorem OnlyB.drewN {b : Nat} {w w' : World} (h : OnlyB b w w') (q : Nat) : OnlyB b w (w'.drewN q) := ⟨h.os, h.tape, h.output, h.size, h.block⟩
set_option maxRecDepth 100000 in
set_option maxHeartbeats 2000000 in
theorem byte_any (b : Nat) (a : Option Addr) (len cap at_ seed : Nat) (z : Nat → Nat) (hz : ∀ i, z i < 256) (hat : at_ ≤ 100000000) (hs : seed < 2147483648) (hl : len ≤ maxLen) (hsep : ∀ x, 0 < len → a = some x → x.block ≠ b) (w : World) (h : Src w b a len cap at_ seed) (hc : Code8 w a len z) :
    Calls Tryd.prog 106 #[.pointer (some ⟨b, 0, none⟩)] w fun e w' => e = .returned (.int .i64 ((drawB len z at_ seed).1 : Nat)) ∧ Src w' b a len cap (at_ + 1) (drawB len z at_ seed).2 ∧ OnlyB b w w' := by
  obtain ⟨h0, h1, h2, f1, f2⟩ := h
  have hl' : (len : Int) ≤ 9223372036854775807 := by unfold maxLen at hl; omega
  by_cases hin : at_ + 1 ≤ len
  · obtain ⟨cb, off, rfl, hcell⟩ := hc.opened (by omega)
    have hne : cb ≠ b := hsep _ (by omega) rfl
    have c1 := hcell at_ (by omega)
    have lz := hz at_
    have DR : Hid (drawB len z at_ seed = (z at_, (seed * 31 + z at_ + 7) % 2147483648)) := by show drawB _ _ _ _ = _; unfold drawB; rw [if_pos hin]
    have x1 : (at_ : Int) + 1 ≤ (len : Int) := by omega
    clear hc hcell hsep hz
    generalize z at_ = Z at *
    have em : ((seed : Int) * 31 + (Z : Int) + 7) % 2147483648 = (((seed * 31 + Z + 7) % 2147483648 : Nat) : Int) := by omega
    go_enter Tryd.func106, Tryd.ntmps106
    go_wp2
    have k0 : (w.setCell ⟨b, 1, none⟩ (.int .i64 ((at_ : Int) + 1))).cell? ⟨b, 0, none⟩ = some (.slice (some ⟨cb, off, none⟩) len cap) := by rw [World.cell?_setCell_other _ _ _ _ (by intro e; cases e)]; exact h0
    have k1 : (w.setCell ⟨b, 1, none⟩ (.int .i64 ((at_ : Int) + 1))).cell? ⟨b, 1, none⟩ = some (.int .i64 ((at_ : Int) + 1)) := World.cell?_setCell_same _ _ _ h1
    have k2 : (w.setCell ⟨b, 1, none⟩ (.int .i64 ((at_ : Int) + 1))).cell? ⟨b, 2, none⟩ = some (.int .i64 (seed : Nat)) := by rw [World.cell?_setCell_other _ _ _ _ (by intro e; cases e)]; exact h2
    have k3 : (w.setCell ⟨b, 1, none⟩ (.int .i64 ((at_ : Int) + 1))).cell? ⟨cb, off + at_, none⟩ = some (.int .u8 (Z : Nat)) := by rw [World.cell?_setCell_other _ _ _ _ (by intro e; exact hne (congrArg Addr.block e).symm)]; exact c1
    have g1 : (w.setCell ⟨b, 1, none⟩ (.int .i64 ((at_ : Int) + 1))).frozen? ⟨b, 1, none⟩ = false := by rw [World.frozen?_setCell]; exact f1
    have g2 : (w.setCell ⟨b, 1, none⟩ (.int .i64 ((at_ : Int) + 1))).frozen? ⟨b, 2, none⟩ = false := by rw [World.frozen?_setCell]; exact f2
    have HO : Hid (OnlyB b w (w.setCell ⟨b, 1, none⟩ (.int .i64 ((at_ : Int) + 1)))) := (OnlyB.refl b w).setCell 1 _
    clear h0 h1 h2 f1 f2 c1
    generalize (w.setCell ⟨b, 1, none⟩ (.int .i64 ((at_ : Int) + 1))) = w1 at *
    go_quiet (fail)
    rw [← World.cell?_drewN (n := nq)] at k0 k1 k2 k3
    rw [← World.frozen?_drewN (n := nq)] at g1 g2
    have HO2 : Hid (OnlyB b w (w1.drewN nq)) := HO.out.drewN nq
    clear HO
    generalize w1.drewN nq = w2 at *
    go_wp2
    have et : ((at_ : Int) + 1 - 1) = (at_ : Int) := by omega
    have x2 : (at_ : Int) < (len : Int) := by omega
    have x3 : (0 : Int) ≤ (at_ : Int) := by omega
    have ew : IntKind.i64.wrap (at_ : Int) = (at_ : Int) := IntWalk.i64_in _ ⟨by omega, by omega⟩
    have wS : IntKind.i64.wrap ((seed : Int) * 31) = (seed : Int) * 31 := IntWalk.i64_in _ ⟨by omega, by omega⟩
    have wZ : IntKind.i64.wrap (Z : Int) = (Z : Int) := IntWalk.i64_in _ ⟨by omega, by omega⟩
    have wA : IntKind.i64.wrap ((seed : Int) * 31 + (Z : Int)) = (seed : Int) * 31 + (Z : Int) := IntWalk.i64_in _ ⟨by omega, by omega⟩
    have wB : IntKind.i64.wrap ((seed : Int) * 31 + (Z : Int) + 7) = (seed : Int) * 31 + (Z : Int) + 7 := IntWalk.i64_in _ ⟨by omega, by omega⟩
    have tm : ((seed : Int) * 31 + (Z : Int) + 7).tmod 2147483648 = (((seed * 31 + Z + 7) % 2147483648 : Nat) : Int) := by
      rw [show (seed : Int) * 31 + (Z : Int) + 7 = ((seed * 31 + Z + 7 : Nat) : Int) from by omega]; exact (Int.ofNat_tmod (seed * 31 + Z + 7) 2147483648).symm
    generalize (seed * 31 + Z + 7) % 2147483648 = S' at *
    go_cut [0] (fun p wx => p = .pointer (some ⟨b, 0, none⟩) ∧ wx = (w2.setCell ⟨b, 2, none⟩ (.int .i64 (S' : Nat))).drew)
    case first =>
      go_region
      all_goals (go_wp2_with fail; go_meet; exact ⟨rfl, rfl⟩)
    case rest =>
      obtain ⟨rfl, rfl⟩ := hcut
      have q0 : ((w2.setCell ⟨b, 2, none⟩ (.int .i64 (S' : Nat))).drew).cell? ⟨b, 0, none⟩ = some (.slice (some ⟨cb, off, none⟩) len cap) := by
        show (w2.setCell ⟨b, 2, none⟩ (.int .i64 (S' : Nat))).cell? _ = _
        rw [World.cell?_setCell_other _ _ _ _ (by intro e; cases e)]; exact k0
      have q1 : ((w2.setCell ⟨b, 2, none⟩ (.int .i64 (S' : Nat))).drew).cell? ⟨b, 1, none⟩ = some (.int .i64 ((at_ : Int) + 1)) := by
        show (w2.setCell ⟨b, 2, none⟩ (.int .i64 (S' : Nat))).cell? _ = _
        rw [World.cell?_setCell_other _ _ _ _ (by intro e; cases e)]; exact k1
      have q2 : ((w2.setCell ⟨b, 2, none⟩ (.int .i64 (S' : Nat))).drew).cell? ⟨b, 2, none⟩ = some (.int .i64 (S' : Nat)) := by
        show (w2.setCell ⟨b, 2, none⟩ (.int .i64 (S' : Nat))).cell? _ = _
        exact World.cell?_setCell_same _ _ _ k2
      have q3 : ((w2.setCell ⟨b, 2, none⟩ (.int .i64 (S' : Nat))).drew).cell? ⟨cb, off + at_, none⟩ = some (.int .u8 (Z : Nat)) := by
        show (w2.setCell ⟨b, 2, none⟩ (.int .i64 (S' : Nat))).cell? _ = _
        rw [World.cell?_setCell_other _ _ _ _ (by intro e; exact hne (congrArg Addr.block e).symm)]; exact k3
      have q4 : ((w2.setCell ⟨b, 2, none⟩ (.int .i64 (S' : Nat))).drew).frozen? ⟨b, 1, none⟩ = false := by
        show (w2.setCell ⟨b, 2, none⟩ (.int .i64 (S' : Nat))).frozen? _ = _
        rw [World.frozen?_setCell]; exact g1
      have q5 : ((w2.setCell ⟨b, 2, none⟩ (.int .i64 (S' : Nat))).drew).frozen? ⟨b, 2, none⟩ = false := by
        show (w2.setCell ⟨b, 2, none⟩ (.int .i64 (S' : Nat))).frozen? _ = _
        rw [World.frozen?_setCell]; exact g2
      have HO3 : Hid (OnlyB b w ((w2.setCell ⟨b, 2, none⟩ (.int .i64 (S' : Nat))).drew)) := (HO2.out.setCell 2 _).drewN 1
      have HS3 : Hid (Src ((w2.setCell ⟨b, 2, none⟩ (.int .i64 (S' : Nat))).drew) b (some ⟨cb, off, none⟩) len cap (at_ + 1) S') := ⟨q0, q1, q2, q4, q5⟩
      clear k0 k1 k2 k3 g1 g2 HO2 q2 q4 q5
      generalize (w2.setCell ⟨b, 2, none⟩ (.int .i64 (S' : Nat))).drew = w3 at *
      go_wp2_with fail
      go_quiet (fail)
      go_wp2
      go_ret
      rw [DR.out]
      exact ⟨rfl, ⟨HS3.out.code, HS3.out.at1, HS3.out.seed2, HS3.out.free1, HS3.out.free2⟩, HO3.out.drewN _⟩
  · have x1 : ¬ (at_ : Int) + 1 ≤ (len : Int) := by omega
    have DR0 : Hid (drawB len z at_ seed = if 3000 < at_ + 1 then (0, seed) else ((seed * 1103515245 + 12345) % 2147483648 / 65536 % 256, (seed * 1103515245 + 12345) % 2147483648)) := by show drawB _ _ _ _ = _; unfold drawB; rw [if_neg hin]
    clear hc hsep hz hin
    go_enter Tryd.func106, Tryd.ntmps106
    go_wp2
    have k0 : (w.setCell ⟨b, 1, none⟩ (.int .i64 ((at_ : Int) + 1))).cell? ⟨b, 0, none⟩ = some (.slice a len cap) := by rw [World.cell?_setCell_other _ _ _ _ (by intro e; cases e)]; exact h0
    have k1 : (w.setCell ⟨b, 1, none⟩ (.int .i64 ((at_ : Int) + 1))).cell? ⟨b, 1, none⟩ = some (.int .i64 ((at_ : Int) + 1)) := World.cell?_setCell_same _ _ _ h1
    have k2 : (w.setCell ⟨b, 1, none⟩ (.int .i64 ((at_ : Int) + 1))).cell? ⟨b, 2, none⟩ = some (.int .i64 (seed : Nat)) := by rw [World.cell?_setCell_other _ _ _ _ (by intro e; cases e)]; exact h2
    have g1 : (w.setCell ⟨b, 1, none⟩ (.int .i64 ((at_ : Int) + 1))).frozen? ⟨b, 1, none⟩ = false := by rw [World.frozen?_setCell]; exact f1
    have g2 : (w.setCell ⟨b, 1, none⟩ (.int .i64 ((at_ : Int) + 1))).frozen? ⟨b, 2, none⟩ = false := by rw [World.frozen?_setCell]; exact f2
    have HO : Hid (OnlyB b w (w.setCell ⟨b, 1, none⟩ (.int .i64 ((at_ : Int) + 1)))) := (OnlyB.refl b w).setCell 1 _
    clear h0 h1 h2 f1 f2
    generalize (w.setCell ⟨b, 1, none⟩ (.int .i64 ((at_ : Int) + 1))) = w1 at *
    go_quiet (fail)
    rw [← World.cell?_drewN (n := nq)] at k0 k1 k2
    rw [← World.frozen?_drewN (n := nq)] at g1 g2
    have HO2 : Hid (OnlyB b w (w1.drewN nq)) := HO.out.drewN nq
    clear HO
    generalize w1.drewN nq = w2 at *
    have HS2 : Hid (Src w2 b a len cap (at_ + 1) seed) := ⟨k0, k1, k2, g1, g2⟩
    by_cases hbig : 3000 < at_ + 1
    · have x2 : (3000 : Int) < (at_ : Int) + 1 := by omega
      have DR : Hid (drawB len z at_ seed = (0, seed)) := by show drawB _ _ _ _ = _; rw [DR0.out, if_pos hbig]
      go_wp2
      go_ret
      rw [DR.out]
      exact ⟨rfl, HS2.out, HO2.out⟩
    · have x2 : ¬ (3000 : Int) < (at_ : Int) + 1 := by omega
      have DR : Hid (drawB len z at_ seed = ((seed * 1103515245 + 12345) % 2147483648 / 65536 % 256, (seed * 1103515245 + 12345) % 2147483648)) := by show drawB _ _ _ _ = _; rw [DR0.out, if_neg hbig]
      have wS : IntKind.i64.wrap ((seed : Int) * 1103515245) = (seed : Int) * 1103515245 := IntWalk.i64_in _ ⟨by omega, by omega⟩
      have wA : IntKind.i64.wrap ((seed : Int) * 1103515245 + 12345) = (seed : Int) * 1103515245 + 12345 := IntWalk.i64_in _ ⟨by omega, by omega⟩
      have tm : ((seed : Int) * 1103515245 + 12345).tmod 2147483648 = (((seed * 1103515245 + 12345) % 2147483648 : Nat) : Int) := by
        rw [show (seed : Int) * 1103515245 + 12345 = ((seed * 1103515245 + 12345 : Nat) : Int) from by omega]; exact (Int.ofNat_tmod (seed * 1103515245 + 12345) 2147483648).symm
      have em : ((seed : Int) * 1103515245 + 12345) % 2147483648 = (((seed * 1103515245 + 12345) % 2147483648 : Nat) : Int) := by omega
      have hS' : (seed * 1103515245 + 12345) % 2147483648 < 2147483648 := Nat.mod_lt _ (by omega)
      generalize (seed * 1103515245 + 12345) % 2147483648 = S' at *
      have HS3 : Hid (Src (w2.setCell ⟨b, 2, none⟩ (.int .i64 (S' : Nat))) b a len cap (at_ + 1) S') :=
        ⟨by rw [World.cell?_setCell_other _ _ _ _ (by intro e; cases e)]; exact k0, by rw [World.cell?_setCell_other _ _ _ _ (by intro e; cases e)]; exact k1, World.cell?_setCell_same _ _ _ k2, by rw [World.frozen?_setCell]; exact g1, by rw [World.frozen?_setCell]; exact g2⟩
      go_wp2
      go_ret
      rw [DR.out]
      exact ⟨by go_num, HS3.out, HO2.out.setCell 2 _⟩
set_option maxRecDepth 100000 in
theorem next_any (n : Nat) (hn : 2 ≤ n) (hn' : n ≤ 256) (b : Nat) (a : Option Addr) (len cap at_ seed : Nat) (z : Nat → Nat) (hz : ∀ i, z i < 256) (hat : at_ ≤ 100000000) (hs : seed < 2147483648) (hl : len ≤ maxLen) (hsep : ∀ x, 0 < len → a = some x → x.block ≠ b) (w : World) (h : Src w b a len cap at_ seed) (hc : Code8 w a len z) :
    Calls Tryd.prog 82 #[.pointer (some ⟨b, 0, none⟩), .int .i64 (n : Int)] w fun e w' => e = .returned (.int .i64 (((drawB len z at_ seed).1 % n : Nat) : Int)) ∧ Src w' b a len cap (at_ + 1) (drawB len z at_ seed).2 ∧ OnlyB b w w' := by
  have BY : Hid (∀ w : World, Src w b a len cap at_ seed → Code8 w a len z → Calls Tryd.prog 106 #[.pointer (some ⟨b, 0, none⟩)] w fun e w' => e = .returned (.int .i64 ((drawB len z at_ seed).1 : Nat)) ∧ Src w' b a len cap (at_ + 1) (drawB len z at_ seed).2 ∧ OnlyB b w w') := fun w h hc => byte_any b a len cap at_ seed z hz hat hs hl hsep w h hc
  have lb := (drawB_lt (len := len) hz (at_ := at_) hs).1
  have H : Hid (Src w b a len cap at_ seed) := h
  have HC : Hid (Code8 w a len z) := hc
  have x1 : ¬ (n : Int) ≤ 1 := by omega
  have x2 : (n : Int) ≤ 256 := by omega
  clear h hc hsep hz
  generalize (drawB len z at_ seed).1 = V at *
  generalize (drawB len z at_ seed).2 = S at *
  have em : ((V : Int)).tmod (n : Int) = ((V % n : Nat) : Int) := (Int.ofNat_tmod V n).symm
  have hn0 : ((n : Int) == 0) = false := by rw [beq_eq_false_iff_ne]; omega
  go_enter Tryd.func82, Tryd.ntmps82
  go_wp2_with fail
  refine (BY.out _ H.out HC.out).mono ?_
  rintro e w1 ⟨rfl, hs1, ho1⟩
  have HS1 : Hid (Src w1 b a len cap (at_ + 1) S) := hs1
  have HO1 : Hid (OnlyB b w w1) := ho1
  clear hs1 ho1
  go_wp2
  go_ret
  exact ⟨by go_num, HS1.out, HO1.out⟩
theorem OnlyB.belowAt {b : Nat} {w w' w'' : World} (h : OnlyB b w w') (hb : Below w.heap.size w' w'') : OnlyB b w w'' :=
  ⟨hb.os.trans h.os, hb.tape.trans h.tape, hb.output.trans h.output, Nat.le_trans h.size hb.size, fun k hk hn => (hb.block k hk).trans (h.block k hk hn)⟩
theorem source_any (a : Option Addr) (len cap : Nat) (hl : len ≤ maxLen) (w : World) :
    Calls Tryd.prog 48 #[.slice a len cap] w fun e w' => e = .returned (.pointer (some ⟨w.heap.size, 0, none⟩)) ∧ Src w' w.heap.size a len cap 0 (len % 1000) ∧ Below w.heap.size w w' := by
  have hl' : (len : Int) ≤ 9223372036854775807 := by unfold maxLen at hl; omega
  have em : (len : Int) % 1000 = ((len % 1000 : Nat) : Int) := by omega
  have et : (len : Int).tmod 1000 = ((len % 1000 : Nat) : Int) := (Int.ofNat_tmod len 1000).symm
  generalize len % 1000 = M at *
  go_enter Tryd.func48, Tryd.ntmps48
  go_wp2
  go_ret
  refine ⟨rfl, ⟨?_, ?_, ?_, ?_, ?_⟩, (Below.refl _ _).alloc (Nat.le_refl _) _⟩
  · simp
  · simp
  · simp
  · simp
  · simp
end Go.Proofs.YtpngjkhncfbnpaaDoor
namespace Go.Proofs.YtpngjkhncfbnpaaDoor
open Go.ChangeShapes Go.WideShapes Go.ChangeAt Go.RowKit
end Go.Proofs.YtpngjkhncfbnpaaDoor
namespace Go.Proofs.YtpngjkhncfbnpaaDoor
open Go.ChangeShapes Go.WideShapes Go.ChangeAt Go.RowKit
theorem numEq8 {k : IntKind} {a b : Int} (h : a = b) : Value.int k a = .int k b := by rw [h]
theorem Tryd.info8 : (Tryd.prog.info? 5).map (fun i => (i.zero, i.size, i.bytes)) = some (some (.int .u8 0), 1, 1) := by kernel_rfl
theorem mkBytes (n : Nat) (hn : n ≤ 10000000) (w : World) : (Instr.makeSlice 40 (.int .i64 (n : Int)) (.int .i64 (n : Int))).run Tryd.prog w = .ok (.slice (some ⟨w.heap.size, 0, none⟩) n n) (w.alloc (.cells (madeCells #[.int .u8 0] n) 5)) :=
  run_make_row' 40 5 (.int .u8 0) 1 Tryd.underlying40 Tryd.info8 rfl .i64 .i64 n (by omega) (by omega) w
end Go.Proofs.YtpngjkhncfbnpaaDoor
namespace Go.Proofs.YtpngjkhncfbnpaaDoor
open Go.ChangeShapes Go.WideShapes Go.ChangeAt Go.RowKit
theorem u32_or_nat (a b : Nat) : bits .or .u32 (a : Int) (b : Int) = ((Sha.orr a b : Nat) : Int) := by
  show (((BitVec.ofInt 32 (a : Int) ||| BitVec.ofInt 32 (b : Int)).toNat : Int) % 4294967296) = _
  rw [BitVec.toNat_or, BitVec.ofInt_natCast, BitVec.toNat_ofNat, BitVec.ofInt_natCast, BitVec.toNat_ofNat, ← Nat.or_mod_two_pow]
  unfold Sha.orr
  have : (a ||| b) % 2 ^ 32 < 2 ^ 32 := Nat.mod_lt _ (by decide)
  omega
theorem u32_and_nat (a b : Nat) : bits .and .u32 (a : Int) (b : Int) = ((Sha.an a b : Nat) : Int) := by
  show (((BitVec.ofInt 32 (a : Int) &&& BitVec.ofInt 32 (b : Int)).toNat : Int) % 4294967296) = _
  rw [BitVec.toNat_and, BitVec.ofInt_natCast, BitVec.toNat_ofNat, BitVec.ofInt_natCast, BitVec.toNat_ofNat, ← Nat.and_mod_two_pow]
  unfold Sha.an
  have : (a &&& b) % 2 ^ 32 < 2 ^ 32 := Nat.mod_lt _ (by decide)
  omega
theorem u32_xor_nat (a b : Nat) : bits .xor .u32 (a : Int) (b : Int) = ((Sha.xr a b : Nat) : Int) := by
  show (((BitVec.ofInt 32 (a : Int) ^^^ BitVec.ofInt 32 (b : Int)).toNat : Int) % 4294967296) = _
  rw [BitVec.toNat_xor, BitVec.ofInt_natCast, BitVec.toNat_ofNat, BitVec.ofInt_natCast, BitVec.toNat_ofNat, ← Nat.xor_mod_two_pow]
  unfold Sha.xr
  have : (a ^^^ b) % 2 ^ 32 < 2 ^ 32 := Nat.mod_lt _ (by decide)
  omega
theorem u32_add_nat (a b : Nat) : IntKind.u32.wrap ((a : Int) + (b : Int)) = ((Sha.ad a b : Nat) : Int) := by
  show ((a : Int) + (b : Int)) % 4294967296 = _
  unfold Sha.ad
  omega
def Turns (n : Nat) : Prop := n = 2 ∨ n = 6 ∨ n = 7 ∨ n = 11 ∨ n = 13 ∨ n = 17 ∨ n = 18 ∨ n = 19 ∨ n = 22 ∨ n = 25
theorem rt_int (x n a b : Nat) (ha : 2 ^ n = a) (hb : 2 ^ (32 - n) = b) : bits .or .u32 ((x : Int) / (a : Int)) ((x : Int) * (b : Int) % 4294967296) = ((Sha.rt x n : Nat) : Int) := by
  subst ha hb
  unfold Sha.rt Sha.sr Sha.sl
  rw [← u32_or_nat]
  congr 1
theorem numRet {k : IntKind} {a b : Int} (h : a = b) : Ending.returned (.int k a) = .returned (.int k b) := by rw [h]
set_option maxRecDepth 100000 in
theorem l03Turn_any (x n : Nat) (hn : Turns n) (w : World) :
    Calls Tryd.prog 124 #[.int .u32 (x : Int), .int .u64 (n : Int)] w fun e w' => e = .returned (.int .u32 ((Sha.rt x n : Nat) : Int)) ∧ w = w' := by
  rcases hn with rfl | rfl | rfl | rfl | rfl | rfl | rfl | rfl | rfl | rfl
  · have E : Hid (_ = _) := rt_int x 2 4 1073741824 (by decide) (by decide)
    go_enter Tryd.func124, Tryd.ntmps124
    go_wp2
    go_ret
    exact ⟨numRet E.out, rfl⟩
  · have E : Hid (_ = _) := rt_int x 6 64 67108864 (by decide) (by decide)
    go_enter Tryd.func124, Tryd.ntmps124
    go_wp2
    go_ret
    exact ⟨numRet E.out, rfl⟩
  · have E : Hid (_ = _) := rt_int x 7 128 33554432 (by decide) (by decide)
    go_enter Tryd.func124, Tryd.ntmps124
    go_wp2
    go_ret
    exact ⟨numRet E.out, rfl⟩
  · have E : Hid (_ = _) := rt_int x 11 2048 2097152 (by decide) (by decide)
    go_enter Tryd.func124, Tryd.ntmps124
    go_wp2
    go_ret
    exact ⟨numRet E.out, rfl⟩
  · have E : Hid (_ = _) := rt_int x 13 8192 524288 (by decide) (by decide)
    go_enter Tryd.func124, Tryd.ntmps124
    go_wp2
    go_ret
    exact ⟨numRet E.out, rfl⟩
  · have E : Hid (_ = _) := rt_int x 17 131072 32768 (by decide) (by decide)
    go_enter Tryd.func124, Tryd.ntmps124
    go_wp2
    go_ret
    exact ⟨numRet E.out, rfl⟩
  · have E : Hid (_ = _) := rt_int x 18 262144 16384 (by decide) (by decide)
    go_enter Tryd.func124, Tryd.ntmps124
    go_wp2
    go_ret
    exact ⟨numRet E.out, rfl⟩
  · have E : Hid (_ = _) := rt_int x 19 524288 8192 (by decide) (by decide)
    go_enter Tryd.func124, Tryd.ntmps124
    go_wp2
    go_ret
    exact ⟨numRet E.out, rfl⟩
  · have E : Hid (_ = _) := rt_int x 22 4194304 1024 (by decide) (by decide)
    go_enter Tryd.func124, Tryd.ntmps124
    go_wp2
    go_ret
    exact ⟨numRet E.out, rfl⟩
  · have E : Hid (_ = _) := rt_int x 25 33554432 128 (by decide) (by decide)
    go_enter Tryd.func124, Tryd.ntmps124
    go_wp2
    go_ret
    exact ⟨numRet E.out, rfl⟩
end Go.Proofs.YtpngjkhncfbnpaaDoor
namespace Go.Proofs.YtpngjkhncfbnpaaDoor
open Go.ChangeShapes Go.WideShapes Go.ChangeAt Go.RowKit
def wv (n : Nat) (f : Nat → Nat) : List Value := (List.range n).map fun i => .int .u32 (f i : Nat)
def wA (n : Nat) (f : Nat → Nat) : Array Value := (wv n f).toArray
theorem wv_length (n : Nat) (f : Nat → Nat) : (wv n f).length = n := by simp [wv]
theorem wA_size (n : Nat) (f : Nat → Nat) : (wA n f).size = n := by simp [wA, wv]
theorem wv_at {n : Nat} {f : Nat → Nat} {k : Nat} (h : k < n) : (wv n f)[k]? = some (.int .u32 (f k : Nat)) := by simp [wv, h]
theorem wA_at {n : Nat} {f : Nat → Nat} {k : Nat} (h : k < n) : (wA n f)[k]? = some (.int .u32 (f k : Nat)) := by rw [wA, List.getElem?_toArray]; exact wv_at h
def RowW (w : World) (b : Nat) (t : TypeId) (n : Nat) (f : Nat → Nat) : Prop := w.rowIs b t n (fun i => .int .u32 (f i : Nat))
theorem RowW.boxed (w : World) (t : TypeId) (n : Nat) (f : Nat → Nat) : RowW (w.alloc (.cells (wA n f) t)) w.heap.size t n f := by
  have := World.rowIs_alloc w (wA n f) t (fun i => .int .u32 (f i : Nat)) (fun i hi => wA_at (by rwa [wA_size] at hi))
  rw [wA_size] at this
  exact this
theorem RowW.set {w : World} {b n : Nat} {t : TypeId} {f : Nat → Nat} (h : RowW w b t n f) (i v : Nat) : RowW (w.setCell ⟨b, i, none⟩ (.int .u32 (v : Nat))) b t n (fun j => if j = i then v else f j) :=
  (World.rowIs.set h i _).congr (fun j _ => by by_cases e : j = i <;> simp [e])
theorem RowW.congr {w : World} {b n : Nat} {t : TypeId} {f g : Nat → Nat} (h : RowW w b t n f) (e : ∀ i, i < n → f i = g i) : RowW w b t n g := World.rowIs.congr h (fun i hi => by rw [e i hi])
theorem RowW.below {w w' : World} {b n : Nat} {t : TypeId} {f : Nat → Nat} (h : RowW w b t n f) (hb : Below w.heap.size w w') : RowW w' b t n f := World.rowIs.of_block h (hb.block b h.lt)
theorem RowW.alloc {w : World} {b n : Nat} {t : TypeId} {f : Nat → Nat} (h : RowW w b t n f) (o : Obj) : RowW (w.alloc o) b t n f := World.rowIs.alloc h o
theorem RowW.onlyB {w w' : World} {b c n : Nat} {t : TypeId} {f : Nat → Nat} (h : RowW w b t n f) (ho : OnlyB c w w') (hne : b ≠ c) : RowW w' b t n f := World.rowIs.of_block h (ho.block b h.lt hne)
end Go.Proofs.YtpngjkhncfbnpaaDoor
namespace Go.Proofs.YtpngjkhncfbnpaaDoor
open Go.ChangeShapes Go.WideShapes Go.ChangeAt Go.RowKit
theorem word_int (a b c d : Nat) : bits .or .u32 (bits .or .u32 (bits .or .u32 ((a : Int) * 16777216 % 4294967296) ((b : Int) * 65536 % 4294967296)) ((c : Int) * 256 % 4294967296)) (d : Int) = ((Sha.orr (Sha.orr (Sha.orr (Sha.sl a 24) (Sha.sl b 16)) (Sha.sl c 8)) d : Nat) : Int) := by
  rw [← u32_or_nat, ← u32_or_nat, ← u32_or_nat]
  unfold Sha.sl
  congr 1
theorem s0_int (a : Nat) : bits .xor .u32 (bits .xor .u32 ((Sha.rt a 7 : Nat) : Int) ((Sha.rt a 18 : Nat) : Int)) ((a : Int) / 8) = ((Sha.s0 a : Nat) : Int) := by
  unfold Sha.s0 Sha.sr
  rw [← u32_xor_nat, ← u32_xor_nat]
  congr 1
theorem s1_int (a : Nat) : bits .xor .u32 (bits .xor .u32 ((Sha.rt a 17 : Nat) : Int) ((Sha.rt a 19 : Nat) : Int)) ((a : Int) / 1024) = ((Sha.s1 a : Nat) : Int) := by
  unfold Sha.s1 Sha.sr
  rw [← u32_xor_nat, ← u32_xor_nat]
  congr 1
end Go.Proofs.YtpngjkhncfbnpaaDoor
namespace Go.Proofs.YtpngjkhncfbnpaaDoor
open Go.ChangeShapes Go.WideShapes Go.ChangeAt Go.RowKit
theorem big_int (x y z : Nat) : bits .xor .u32 (bits .xor .u32 (x : Int) (y : Int)) (z : Int) = ((Sha.xr (Sha.xr x y) z : Nat) : Int) := by rw [u32_xor_nat, u32_xor_nat]
theorem nt_int (e : Nat) : bits .xor .u32 4294967295 (e : Int) = ((Sha.nt e : Nat) : Int) := u32_xor_nat 4294967295 e
end Go.Proofs.YtpngjkhncfbnpaaDoor
namespace Go.Proofs.YtpngjkhncfbnpaaDoor
open Go.ChangeShapes Go.WideShapes Go.ChangeAt Go.RowKit
end Go.Proofs.YtpngjkhncfbnpaaDoor
namespace Go.Proofs.YtpngjkhncfbnpaaDoor
open Go.ChangeShapes Go.WideShapes Go.ChangeAt Go.RowKit
theorem one_new8 (w : World) (x : Nat) (t : TypeId) : ∀ j u, [Value.int .u8 (x : Nat)][j]? = some u → (w.alloc (.cells #[.int .u8 (x : Nat)] t)).cell? ((⟨w.heap.size, 0, none⟩ : Addr).add j) = some u := fun j u hj => by
  have hj0 : j = 0 := by have := (List.getElem?_eq_some_iff.1 hj).1; simp at this; omega
  subst hj0
  cases hj
  rw [Addr.add_lit]
  simp
theorem one_one8 (x : Nat) : ∀ u ∈ [Value.int .u8 (x : Nat)], u.oneCell' = true := fun u hu => by
  simp at hu
  subst hu
  rfl
end Go.Proofs.YtpngjkhncfbnpaaDoor
namespace Go.Proofs.YtpngjkhncfbnpaaDoor
open Go.ChangeShapes Go.WideShapes Go.ChangeAt Go.RowKit
theorem bv_extN (k r : Nat) (f : Nat → Nat) : bv k f ++ [.int .u8 (r : Nat)] = bv (k + 1) (fun j => if j = k then r else f j) := by
  have e := bv_snoc k (fun j => if j = k then r else f j)
  rw [if_pos rfl, bv_congr (g := f) (fun i hi => if_neg (by omega))] at e
  exact e
end Go.Proofs.YtpngjkhncfbnpaaDoor
namespace Go.Proofs.YtpngjkhncfbnpaaDoor
open Go.ChangeShapes Go.WideShapes Go.ChangeAt Go.RowKit
theorem kstr_of_code {w : World} {b o n c : Nat} {f : Nat → Nat} (h : Code8 w (some ⟨b, o, none⟩) n f) : (convert 40 9 (.slice (some ⟨b, o, none⟩) n c)).run Tryd.prog w = .ok (.string (kstr f 0 n)) w := by
  refine run_convert_bytes_arg w 40 5 Tryd.underlying40 Tryd.underlying5 b o n c ((List.range n).map fun i => ((f (0 + i) : Nat) : Int)) (by simp) (fun i hi => ?_) 9 Tryd.underlying9
  rw [h.at hi]
  simp [hi]
end Go.Proofs.YtpngjkhncfbnpaaDoor
namespace Go.Proofs.YtpngjkhncfbnpaaDoor
open Go.ChangeShapes Go.WideShapes Go.ChangeAt Go.RowKit
set_option linter.unusedVariables false
def Rdr (w : World) (q D N : Nat) (f : Nat → Nat) (p : Option Nat) : Prop :=
  match p with
  | some p => p ≤ N ∧ ∃ a c, N - p ≤ c ∧ Box2 w q 110 (.slice a (N - p) c) (.bool false) ∧ Code8 w a (N - p) (fun i => f (p + i)) ∧ (∀ x, 0 < N - p → a = some x → x.block < D)
  | none => Box2 w q 110 (.slice none 0 0) (.bool true)
theorem Code8.keep {w w' : World} {a : Option Addr} {n D : Nat} {f : Nat → Nat} (h : Code8 w a n f) (hd : ∀ x, 0 < n → a = some x → x.block < D) (e : ∀ b, b < D → w'.heap[b]? = w.heap[b]?) : Code8 w' a n f := fun i hi => by
  obtain ⟨b, o, ha, hc⟩ := h i hi
  refine ⟨b, o, ha, ?_⟩
  rw [← hc]
  exact cellE (e b (hd _ (by omega) ha))
theorem Rdr.keep {w w' : World} {q D N : Nat} {f : Nat → Nat} {p : Option Nat} (h : Rdr w q D N f p) (e1 : w'.heap[q]? = w.heap[q]?) (e2 : ∀ b, b < D → w'.heap[b]? = w.heap[b]?) : Rdr w' q D N f p := by
  cases p with
  | none => exact Box2.ofBlock h e1
  | some p =>
    obtain ⟨h1, a, c, h2, h3, h4, h5⟩ := h
    exact ⟨h1, a, c, h2, h3.ofBlock e1, h4.keep h5 e2, h5⟩
def Few (w : World) (q k : Nat) : Prop := ∃ a m c s, m < k ∧ Box2 w q 110 (.slice a m c) (.bool s)
theorem few_none {w : World} {q D N k : Nat} {f : Nat → Nat} (hk : 0 < k) (h : Rdr w q D N f none) : Few w q k := ⟨none, 0, 0, true, hk, h⟩
theorem few_some {w : World} {q D N k p : Nat} {f : Nat → Nat} (hp : N < p + k) (h : Rdr w q D N f (some p)) : Few w q k := by
  obtain ⟨h1, a, c, h2, h3, _⟩ := h
  exact ⟨a, N - p, c, false, by omega, h3⟩
theorem OnlyB.made {q : Nat} {w w' : World} (h : OnlyB q w w') (o : Obj) : OnlyB q w (w'.alloc o) := h.below ((Below.refl _ _).alloc (Nat.le_refl _) _)
def Took (w' : World) (e : Ending) (q k : Nat) (g : Nat → Nat) : Prop := ∃ b o c, e = .returned (.slice (some ⟨b, o, none⟩) k c) ∧ Code8 w' (some ⟨b, o, none⟩) k g ∧ b ≠ q
set_option maxRecDepth 100000 in
set_option maxHeartbeats 2000000 in
theorem take_no (q D N k : Nat) (f : Nat → Nat) (hk : k ≤ 1000) (w : World) (h : Few w q k) :
    Calls Tryd.prog 100 #[.pointer (some ⟨q, 0, none⟩), .int .i64 (k : Int)] w fun e w' => Took w' e q k (fun _ => 0) ∧ Rdr w' q D N f none ∧ OnlyB q w w' := by
  obtain ⟨a, m, c, s, hm, h⟩ := h
  have X : Hid (Box2 w q 110 (.slice a m c) (.bool s)) := h
  have x0 := X.out.c0
  have x1 := X.out.c1
  have f0 := X.out.fr 0
  have f1 := X.out.fr 1
  have m1 := mkBytes k (by omega)
  have k1 : (m : Int) < (k : Int) := by omega
  have Y : Hid (Box2 ((w.setCell ⟨q, 0, none⟩ (.slice none 0 0)).setCell ⟨q, 1, none⟩ (.bool true)) q 110 (.slice none 0 0) (.bool true)) := (X.out.set0 _).set1 _
  have O : Hid (OnlyB q w ((w.setCell ⟨q, 0, none⟩ (.slice none 0 0)).setCell ⟨q, 1, none⟩ (.bool true))) := ((OnlyB.refl q w).setCell 0 _).setCell 1 _
  clear h hm
  go_enter Tryd.func100, Tryd.ntmps100
  go_wp2
  go_ret
  have Z : (((w.setCell ⟨q, 0, none⟩ (.slice none 0 0)).setCell ⟨q, 1, none⟩ (.bool true)).alloc (.cells (madeCells #[.int .u8 0] k) 5)).rowIs ((w.setCell ⟨q, 0, none⟩ (.slice none 0 0)).setCell ⟨q, 1, none⟩ (.bool true)).heap.size 5 k (fun _ => .int .u8 0) := World.rowIs_made _ _ _ _
  have hs : ((w.setCell ⟨q, 0, none⟩ (.slice none 0 0)).setCell ⟨q, 1, none⟩ (.bool true)).heap.size = w.heap.size := by simp
  rw [hs] at Z
  refine ⟨⟨w.heap.size, 0, k, rfl, fun i hi => ⟨w.heap.size, 0, rfl, by rw [Nat.zero_add]; exact Z.cell hi⟩, Nat.ne_of_gt X.out.lt⟩, ?_, O.out.made _⟩
  exact Y.out.alloc _
set_option maxRecDepth 100000 in
set_option maxHeartbeats 2000000 in
theorem take_yes (q D N k p : Nat) (hD : D ≤ q) (f : Nat → Nat) (hk0 : 0 < k) (hk : k ≤ 1000) (hN : N ≤ 1048576) (hp : p + k ≤ N) (w : World) (h : Rdr w q D N f (some p)) :
    Calls Tryd.prog 100 #[.pointer (some ⟨q, 0, none⟩), .int .i64 (k : Int)] w fun e w' => Took w' e q k (fun i => f (p + i)) ∧ Rdr w' q D N f (some (p + k)) ∧ OnlyB q w w' := by
  obtain ⟨h1, a, c, h2, h3, h4, h5⟩ := h
  obtain ⟨b, o, rfl, hc⟩ := h4.opened (by omega)
  have X : Hid (Box2 w q 110 (.slice (some ⟨b, o, none⟩) (N - p) c) (.bool false)) := h3
  have HC : Hid (Code8 w (some ⟨b, o, none⟩) (N - p) (fun i => f (p + i))) := h4
  have DB : Hid (b < D) := h5 _ (by omega) rfl
  have NB : Hid (b ≠ q) := by have := DB.out; show _ ≠ _; omega
  have x0 := X.out.c0
  have x1 := X.out.c1
  have f0 := X.out.fr 0
  have f1 := X.out.fr 1
  obtain ⟨m, hm⟩ : ∃ m, m = N - p := ⟨_, rfl⟩
  rw [← hm] at x0 X HC h2
  have k1 : ¬ (m : Int) < (k : Int) := by omega
  have k2 : (k : Int) ≤ (m : Int) := by omega
  have k3 : k ≤ m := by omega
  have k4 : m ≤ c := h2
  have HM : Hid (m = N - p) := hm
  clear h1 h3 h4 h5 hc hm
  by_cases hcc : c = k
  · subst hcc
    obtain rfl : m = c := by omega
    have XX : Hid (Box2 (w.setCell ⟨q, 0, none⟩ (.slice (some ⟨b, o, none⟩) 0 0)) q 110 (.slice (some ⟨b, o, none⟩) 0 0) (.bool false)) := X.out.set0 _
    go_enter Tryd.func100, Tryd.ntmps100
    go_wp2
    go_ret
    have O : OnlyB q w (w.setCell ⟨q, 0, none⟩ (.slice (some ⟨b, o, none⟩) 0 0)) := (OnlyB.refl q w).setCell 0 _
    have HM1 := HM.out
    refine ⟨⟨b, o, m, rfl, HC.out.onlyB O (fun x _ hx => by cases hx; exact NB.out), NB.out⟩, ⟨by omega, some ⟨b, o, none⟩, 0, by omega, ?_, fun i hi => absurd hi (by omega), fun x h0 => absurd h0 (by omega)⟩, O⟩
    rw [show N - (p + m) = 0 from by omega]
    exact XX.out
  · have hcc' : ¬ k = c := fun e => hcc e.symm
    have XX : Hid (Box2 (w.setCell ⟨q, 0, none⟩ (.slice (some ⟨b, o + k, none⟩) (m - k) (c - k))) q 110 (.slice (some ⟨b, o + k, none⟩) (m - k) (c - k)) (.bool false)) := X.out.set0 _
    go_enter Tryd.func100, Tryd.ntmps100
    go_wp2
    go_ret
    have O : OnlyB q w (w.setCell ⟨q, 0, none⟩ (.slice (some ⟨b, o + k, none⟩) (m - k) (c - k))) := (OnlyB.refl q w).setCell 0 _
    have HM1 := HM.out
    have C1 := HC.out.onlyB O (fun x _ hx => by cases hx; exact NB.out)
    refine ⟨⟨b, o, c, rfl, C1.part k3, NB.out⟩, ⟨by omega, some ⟨b, o + k, none⟩, c - k, by omega, ?_, ?_, fun x h0 hx => by cases hx; exact DB.out⟩, O⟩
    · rw [show N - (p + k) = m - k from by omega]
      exact XX.out
    · have := C1.shift k
      rw [show N - (p + k) = m - k from by omega]
      exact this.congr (fun i hi => by show f (p + (k + i)) = f (p + k + i); rw [Nat.add_assoc])
def valN (g : Nat → Nat) : Nat → Nat
  | 0 => 0
  | k + 1 => valN g k * 256 + g k
theorem valN_lt (g : Nat → Nat) (hg : ∀ i, g i < 256) (k : Nat) : valN g k < 256 ^ k := by
  induction k with
  | zero => simp [valN]
  | succ k ih =>
    have := hg k
    unfold valN
    rw [Nat.pow_succ]
    omega
theorem valN_zero (k : Nat) : valN (fun _ => 0) k = 0 := by
  induction k with
  | zero => rfl
  | succ k ih => unfold valN; rw [ih]
theorem orAdd (x y : Nat) (h : y < 256) : x * 256 ||| y = x * 256 + y := by
  have := Nat.shiftLeft_add_eq_or_of_lt (b := y) (i := 8) (by omega) x
  rw [Nat.shiftLeft_eq] at this
  exact this.symm
theorem i64_orN (x y : Nat) (hx : x < 16777216) (hy : y < 256) : bits .or .i64 ((x : Int) * 256) (y : Int) = ((x * 256 + y : Nat) : Int) := by
  have e : ((x : Int) * 256) = ((x * 256 : Nat) : Int) := by simp
  have h1 : (BitVec.ofInt 64 ((x * 256 : Nat) : Int)).toNat = x * 256 := by rw [BitVec.ofInt_natCast, BitVec.toNat_ofNat]; exact Nat.mod_eq_of_lt (by omega)
  have h2 : (BitVec.ofInt 64 (y : Int)).toNat = y := by rw [BitVec.ofInt_natCast, BitVec.toNat_ofNat]; exact Nat.mod_eq_of_lt (by omega)
  rw [e]
  show IntKind.i64.wrap ((BitVec.ofInt 64 ((x * 256 : Nat) : Int) ||| BitVec.ofInt 64 (y : Int)).toNat : Int) = _
  rw [BitVec.toNat_or, h1, h2, orAdd x y hy]
  exact IntWalk.i64_in _ (by omega)
set_option maxRecDepth 100000 in
set_option maxHeartbeats 2000000 in
theorem number_of (q k : Nat) (g : Nat → Nat) (hg : ∀ i, g i < 256) (hk : k ≤ 4) (w : World) (R : World → Prop)
    (ht : Calls Tryd.prog 100 #[.pointer (some ⟨q, 0, none⟩), .int .i64 (k : Int)] w fun e w' => Took w' e q k g ∧ R w' ∧ OnlyB q w w') :
    Calls Tryd.prog 64 #[.pointer (some ⟨q, 0, none⟩), .int .i64 (k : Int)] w fun e w' => e = .returned (.int .i64 (valN g k : Nat)) ∧ R w' ∧ OnlyB q w w' := by
  have HT : Hid (Calls Tryd.prog 100 #[.pointer (some ⟨q, 0, none⟩), .int .i64 (k : Int)] w fun e w' => Took w' e q k g ∧ R w' ∧ OnlyB q w w') := ht
  have HG : Hid (∀ i, g i < 256) := hg
  clear ht hg
  go_enter Tryd.func64, Tryd.ntmps64
  go_wp2_with fail
  refine HT.out.mono ?_
  rintro e w1 ⟨⟨b, o, c, rfl, hc, hb⟩, hr, ho⟩
  have HC : Hid (Code8 w1 (some ⟨b, o, none⟩) k g) := hc
  have HR : Hid (R w1) := hr
  have HO : Hid (OnlyB q w w1) := ho
  clear hc hr ho hb HT
  go_wp2
  go_loopw [5, 12] (fun s i wr => ∃ r : Nat, r ≤ k ∧ i = .int .i64 r ∧ s = .int .i64 ((valN g r : Nat) : Int) ∧ w1 = wr) (fun _ i _ => k - (intOf i).toNat)
  case atStart => exact ⟨0, by omega, rfl, rfl, rfl⟩
  case round =>
    obtain ⟨r, hr, rfl, rfl, rfl⟩ := hrel
    by_cases hlt : r < k
    · have hlt' : (r : Int) < (k : Int) := by omega
      have c0 := HC.out.at hlt
      have g0 := HG.out r
      have v0 := valN_lt g HG.out r
      have v1 : valN g r < 16777216 := Nat.lt_of_lt_of_le v0 (by
        have : 256 ^ r ≤ 256 ^ 3 := Nat.pow_le_pow_right (by omega) (by omega)
        simpa using this)
      have V : Hid (valN g (r + 1) = valN g r * 256 + g r) := rfl
      have OA := i64_orN (valN g r) (g r) v1 g0
      generalize valN g r = x at *
      generalize g r = y at *
      clear v0
      go_wp2
      go_roundw
      case rel => exact ⟨r + 1, by omega, by go_num, by rw [V.out]; exact numEq8 (by omega), trivial⟩
      case measure => simp [intOf]; omega
    · obtain rfl : r = k := by omega
      have hlt' : ¬ (r : Int) < (r : Int) := by omega
      go_wp2
      go_ret
      exact ⟨rfl, HR.out, HO.out⟩
theorem number_yes (q D N k p : Nat) (hD : D ≤ q) (f : Nat → Nat) (hf : ∀ i, f i < 256) (hk0 : 0 < k) (hk : k ≤ 4) (hN : N ≤ 1048576) (hp : p + k ≤ N) (w : World) (h : Rdr w q D N f (some p)) :
    Calls Tryd.prog 64 #[.pointer (some ⟨q, 0, none⟩), .int .i64 (k : Int)] w fun e w' => e = .returned (.int .i64 (valN (fun i => f (p + i)) k : Nat)) ∧ Rdr w' q D N f (some (p + k)) ∧ OnlyB q w w' :=
  number_of q k (fun i => f (p + i)) (fun i => hf _) hk w (fun w' => Rdr w' q D N f (some (p + k))) (take_yes q D N k p hD f hk0 (by omega) hN hp w h)
theorem number_no (q D N k : Nat) (f : Nat → Nat) (hk : k ≤ 4) (w : World) (h : Few w q k) :
    Calls Tryd.prog 64 #[.pointer (some ⟨q, 0, none⟩), .int .i64 (k : Int)] w fun e w' => e = .returned (.int .i64 0) ∧ Rdr w' q D N f none ∧ OnlyB q w w' := by
  have := number_of q k (fun _ => 0) (fun _ => by omega) hk w (fun w' => Rdr w' q D N f none) (take_no q D N k f (by omega) w h)
  rw [valN_zero] at this
  exact this
set_option maxRecDepth 100000 in
set_option maxHeartbeats 2000000 in
theorem text_of (q k : Nat) (g : Nat → Nat) (w : World) (R : World → Prop)
    (ht : Calls Tryd.prog 100 #[.pointer (some ⟨q, 0, none⟩), .int .i64 (k : Int)] w fun e w' => Took w' e q k g ∧ R w' ∧ OnlyB q w w') :
    Calls Tryd.prog 65 #[.pointer (some ⟨q, 0, none⟩), .int .i64 (k : Int)] w fun e w' => e = .returned (.string (kstr g 0 k)) ∧ R w' ∧ OnlyB q w w' := by
  have HT : Hid (Calls Tryd.prog 100 #[.pointer (some ⟨q, 0, none⟩), .int .i64 (k : Int)] w fun e w' => Took w' e q k g ∧ R w' ∧ OnlyB q w w') := ht
  have KS : Hid (∀ (b o c : Nat) (w : World), Code8 w (some ⟨b, o, none⟩) k g → (convert 40 9 (.slice (some ⟨b, o, none⟩) k c)).run Tryd.prog w = .ok (.string (kstr g 0 k)) w) := fun b o c w h => kstr_of_code h
  generalize kstr g 0 k = s at *
  clear ht
  go_enter Tryd.func65, Tryd.ntmps65
  go_wp2_with fail
  refine HT.out.mono ?_
  rintro e w1 ⟨⟨b, o, c, rfl, hc, hb⟩, hr, ho⟩
  have hcv := KS.out b o c w1 hc
  have HR : Hid (R w1) := hr
  have HO : Hid (OnlyB q w w1) := ho
  clear hc hr ho hb HT KS
  go_wp2
  go_ret
  exact ⟨rfl, HR.out, HO.out⟩
def Nxt (N k : Nat) (p p' : Option Nat) (Q : Nat → Prop) : Prop := (p' = none ∧ (p = none ∨ ∃ P, p = some P ∧ N < P + k)) ∨ ∃ P, p = some P ∧ P + k ≤ N ∧ p' = some (P + k) ∧ Q P
def GotN (w' : World) (e : Ending) (q D N k : Nat) (f : Nat → Nat) (p : Option Nat) : Prop := ∃ (x : Nat) (p' : Option Nat), e = .returned (.int .i64 (x : Int)) ∧ Rdr w' q D N f p' ∧ Nxt N k p p' (fun P => x = valN (fun i => f (P + i)) k) ∧ x < 256 ^ k
theorem number_any (q D N k : Nat) (hD : D ≤ q) (f : Nat → Nat) (hf : ∀ i, f i < 256) (hk0 : 0 < k) (hk : k ≤ 4) (hN : N ≤ 1048576) (p : Option Nat) (w : World) (h : Rdr w q D N f p) :
    Calls Tryd.prog 64 #[.pointer (some ⟨q, 0, none⟩), .int .i64 (k : Int)] w fun e w' => GotN w' e q D N k f p ∧ OnlyB q w w' := by
  have no : Few w q k → (p = none ∨ ∃ P, p = some P ∧ N < P + k) → Calls Tryd.prog 64 #[.pointer (some ⟨q, 0, none⟩), .int .i64 (k : Int)] w fun e w' => GotN w' e q D N k f p ∧ OnlyB q w w' := fun hF hX => (number_no q D N k f hk w hF).mono fun e w' ⟨he, hr, ho⟩ => ⟨⟨0, none, he, hr, .inl ⟨rfl, hX⟩, Nat.pow_pos (by omega)⟩, ho⟩
  cases p with
  | none => exact no (few_none hk0 h) (.inl rfl)
  | some P =>
    by_cases hP : P + k ≤ N
    · exact (number_yes q D N k P hD f hf hk0 hk hN hP w h).mono fun e w' ⟨he, hr, ho⟩ => ⟨⟨_, some (P + k), he, hr, .inr ⟨P, rfl, hP, rfl, rfl⟩, valN_lt _ (fun i => hf _) k⟩, ho⟩
    · exact no (few_some (by omega) h) (.inr ⟨P, rfl, by omega⟩)
def GotT (w' : World) (e : Ending) (q D N k : Nat) (f : Nat → Nat) (p : Option Nat) : Prop := ∃ (x : ByteArray) (p' : Option Nat), e = .returned (.string x) ∧ Rdr w' q D N f p' ∧ Nxt N k p p' (fun P => x = kstr (fun i => f (P + i)) 0 k)
theorem text_any (q D N k : Nat) (hD : D ≤ q) (f : Nat → Nat) (hk0 : 0 < k) (hk : k ≤ 1000) (hN : N ≤ 1048576) (p : Option Nat) (w : World) (h : Rdr w q D N f p) :
    Calls Tryd.prog 65 #[.pointer (some ⟨q, 0, none⟩), .int .i64 (k : Int)] w fun e w' => GotT w' e q D N k f p ∧ OnlyB q w w' := by
  have no : Few w q k → (p = none ∨ ∃ P, p = some P ∧ N < P + k) → Calls Tryd.prog 65 #[.pointer (some ⟨q, 0, none⟩), .int .i64 (k : Int)] w fun e w' => GotT w' e q D N k f p ∧ OnlyB q w w' := fun hF hX => (text_of q k (fun _ => 0) w (fun w' => Rdr w' q D N f none) (take_no q D N k f hk w hF)).mono fun e w' ⟨he, hr, ho⟩ => ⟨⟨_, none, he, hr, .inl ⟨rfl, hX⟩⟩, ho⟩
  cases p with
  | none => exact no (few_none hk0 h) (.inl rfl)
  | some P =>
    by_cases hP : P + k ≤ N
    · exact (text_of q k (fun i => f (P + i)) w (fun w' => Rdr w' q D N f (some (P + k))) (take_yes q D N k P hD f hk0 hk hN hP w h)).mono fun e w' ⟨he, hr, ho⟩ => ⟨⟨_, some (P + k), he, hr, .inr ⟨P, rfl, hP, rfl, rfl⟩⟩, ho⟩
    · exact no (few_some (by omega) h) (.inr ⟨P, rfl, by omega⟩)
set_option maxRecDepth 100000 in
theorem ended_no (q D N p : Nat) (f : Nat → Nat) (hp : p < N) (w : World) (h : Rdr w q D N f (some p)) :
    Calls Tryd.prog 66 #[.pointer (some ⟨q, 0, none⟩)] w fun e w' => e = .returned (.bool false) ∧ w = w' := by
  obtain ⟨h1, a, c, h2, h3, _⟩ := h
  obtain ⟨m, hm⟩ : ∃ m, m = N - p := ⟨_, rfl⟩
  rw [← hm] at h3
  have x0 := h3.c0
  have x1 := h3.c1
  have e0 : ((m : Int) == 0) = false := by simp; omega
  have m0 : ¬ m = 0 := by omega
  clear h1 h2 h3 hm
  go_enter Tryd.func66, Tryd.ntmps66
  go_wp2
  go_ret
  exact ⟨rfl, rfl⟩
set_option maxRecDepth 100000 in
theorem ended_yes (q D N : Nat) (f : Nat → Nat) (w : World) (h : Rdr w q D N f (some N)) :
    Calls Tryd.prog 66 #[.pointer (some ⟨q, 0, none⟩)] w fun e w' => e = .returned (.bool true) ∧ w = w' := by
  obtain ⟨h1, a, c, h2, h3, _⟩ := h
  rw [Nat.sub_self] at h3
  have x0 := h3.c0
  have x1 := h3.c1
  clear h1 h2 h3
  go_enter Tryd.func66, Tryd.ntmps66
  go_wp2
  go_ret
  exact ⟨rfl, rfl⟩
set_option maxRecDepth 100000 in
theorem ended_short (q D N : Nat) (f : Nat → Nat) (w : World) (h : Rdr w q D N f none) :
    Calls Tryd.prog 66 #[.pointer (some ⟨q, 0, none⟩)] w fun e w' => e = .returned (.bool false) ∧ w = w' := by
  have x0 := Box2.c0 h
  have x1 := Box2.c1 h
  clear h
  go_enter Tryd.func66, Tryd.ntmps66
  go_wp2
  go_ret
  exact ⟨rfl, rfl⟩
end Go.Proofs.YtpngjkhncfbnpaaDoor
