/-
  The model's source of draws (l00Src): what it holds, and the contracts of byte, next, blob, BlobOf.
-/
import Derived.OwnWalk
import Derived.Laws.OwnMore
import Derived.Laws.IdiomStrings
import Derived.Deep.RegionHeld3
import Derived.Deep.AppendLies
import Derived.Laws.DeepStrings4
import Derived.Deep.DeepCutAuto
import Derived.Deep.Cut
import Derived.Deep.CutRange
import Derived.Test.YtdoacpnjggdojaaStrS
import Derived.Test.YtdoacpnjggdojaaCode8
import Derived.Test.YtdoacpnjggdojaaTxtA
import Derived.BigRegion
import Derived.Deep.Cut
import Derived.Deep.CutRange
import Derived.Deep.DeepCutAuto
namespace Go.Proofs.Ytdoacpnjggdojaa
open Go.ChangeShapes Go.WideShapes Go.ChangeAt Go.RowKit
theorem Try.infoS : (Try.prog.info? 9).map (fun i => (i.zero, i.size, i.bytes)) = some (some (.string ⟨#[]⟩), 1, 16) := by kernel_rfl
theorem cellBlockK {w : World} {p : Addr} {v : Value} (h : w.cell? p = some v) : p.block < w.heap.size := by
  rcases Nat.lt_or_ge p.block w.heap.size with g | g
  · exact g
  · simp [World.cell?, Array.getElem?_eq_none g] at h
theorem owned_open {w : World} {base : Nat} {e : TypeId} {v : Value} {n : Nat} {f : Nat → Value} (h : w.ownsRow base e 1 v n ((List.range n).map f)) (hn : 0 < n) :
    ∃ g cap, base ≤ g ∧ g < w.heap.size ∧ v = .slice (some ⟨g, 0, none⟩) n cap ∧ ∀ i, i < n → w.cell? ⟨g, i, none⟩ = some (f i) := by
  obtain ⟨hl, ⟨rfl, rfl⟩ | ⟨gb, cap, cur, rfl, hb, hh, hn', hm, hs, ht⟩⟩ := h
  · omega
  · refine ⟨gb, cap, hb, ?_, rfl, fun i hi => ?_⟩
    · rcases Nat.lt_or_ge gb w.heap.size with g | g
      · exact g
      · rw [Array.getElem?_eq_none g] at hh; cases hh
    · have h1 : (cur.toList.take (n * 1))[i]? = some (f i) := by rw [ht]; simp [hi]
      rw [List.getElem?_take, if_pos (by omega)] at h1
      simp only [World.cell?, hh]
      simpa using h1
theorem ownsRow_below {w w' : World} {base : Nat} {e : TypeId} {size : Nat} {v : Value} {n : Nat} {xs : List Value} (h : w.ownsRow base e size v n xs) (hb : Below w.heap.size w w') : w'.ownsRow base e size v n xs := by
  obtain ⟨hl, h0 | ⟨g, cap, cur, hv, h1, hh, h2⟩⟩ := h
  · exact ⟨hl, .inl h0⟩
  · refine ⟨hl, .inr ⟨g, cap, cur, hv, h1, ?_, h2⟩⟩
    rw [hb.block g ?_]
    · exact hh
    · rcases Nat.lt_or_ge g w.heap.size with k | k
      · exact k
      · rw [Array.getElem?_eq_none k] at hh; cases hh
theorem numEqK {k : IntKind} {a b : Int} (h : a = b) : Value.int k a = .int k b := by rw [h]
theorem u8in (n : Nat) (h : n < 256) : IntKind.u8.wrap (n : Int) = n := IntWalk.u8_in _ ⟨by omega, by omega⟩
theorem one_newK (w : World) (v : Value) (t : TypeId) : ∀ j u, [v][j]? = some u → (w.alloc (.cells #[v] t)).cell? ((⟨w.heap.size, 0, none⟩ : Addr).add j) = some u := fun j u hj => by
  match j, hj with
  | 0, hj =>
    have e : v = u := by simpa using hj
    subst e
    simp [Addr.add]
theorem one_oneK (v : Value) (h : v.oneCell' = true) : ∀ u ∈ [v], u.oneCell' = true := fun u hu => by
  rw [List.mem_singleton] at hu; rw [hu]; exact h
/-- The byte that is drawn, and the seed behind it. -/
def drawB (len : Nat) (z : Nat → Nat) (at_ seed : Nat) : Nat × Nat :=
  if at_ + 1 ≤ len then (z at_, (seed * 31 + z at_ + 7) % 2147483648) else if 3000 < at_ + 1 then (0, seed) else ((seed * 1103515245 + 12345) % 2147483648 / 65536 % 256, (seed * 1103515245 + 12345) % 2147483648)
theorem drawB_lt {len : Nat} {z : Nat → Nat} (hz : ∀ i, z i < 256) {at_ seed : Nat} (hs : seed < 2147483648) : (drawB len z at_ seed).1 < 256 ∧ (drawB len z at_ seed).2 < 2147483648 := by
  unfold drawB
  split
  · exact ⟨hz _, Nat.mod_lt _ (by omega)⟩
  · split
    · exact ⟨by omega, hs⟩
    · exact ⟨Nat.mod_lt _ (by omega), Nat.mod_lt _ (by omega)⟩
/-- A source in block b. -/
structure Src (w : World) (b : Nat) (a : Option Addr) (len cap at_ seed : Nat) : Prop where
  code : w.cell? ⟨b, 0, none⟩ = some (.slice a len cap)
  at1 : w.cell? ⟨b, 1, none⟩ = some (.int .i64 (at_ : Nat))
  seed2 : w.cell? ⟨b, 2, none⟩ = some (.int .i64 (seed : Nat))
  free1 : w.frozen? ⟨b, 1, none⟩ = false
  free2 : w.frozen? ⟨b, 2, none⟩ = false
theorem Src.lt {w : World} {b : Nat} {a : Option Addr} {len cap at_ seed : Nat} (h : Src w b a len cap at_ seed) : b < w.heap.size := strBlock h.code
theorem Src.below {w w' : World} {b : Nat} {a : Option Addr} {len cap at_ seed : Nat} (h : Src w b a len cap at_ seed) (hb : Below w.heap.size w w') : Src w' b a len cap at_ seed :=
  ⟨by rw [hb.cell (p := ⟨b, 0, none⟩) h.lt]; exact h.code, by rw [hb.cell (p := ⟨b, 1, none⟩) h.lt]; exact h.at1, by rw [hb.cell (p := ⟨b, 2, none⟩) h.lt]; exact h.seed2, by rw [hb.frozen (p := ⟨b, 1, none⟩) h.lt]; exact h.free1, by rw [hb.frozen (p := ⟨b, 2, none⟩) h.lt]; exact h.free2⟩
theorem Src.onlyB {w w' : World} {b c : Nat} {a : Option Addr} {len cap at_ seed : Nat} (h : Src w b a len cap at_ seed) (ho : OnlyB c w w') (hne : b ≠ c) : Src w' b a len cap at_ seed := by
  have hb := ho.block b h.lt hne
  exact ⟨by rw [World.cell?_of_block (w := w) hb]; exact h.code, by rw [World.cell?_of_block (w := w) hb]; exact h.at1, by rw [World.cell?_of_block (w := w) hb]; exact h.seed2, by rw [World.frozen?_of_block (w := w) hb]; exact h.free1, by rw [World.frozen?_of_block (w := w) hb]; exact h.free2⟩
theorem OnlyB.trans {b : Nat} {w w' w'' : World} (h : OnlyB b w w') (k : OnlyB b w' w'') : OnlyB b w w'' :=
  ⟨k.os.trans h.os, k.tape.trans h.tape, k.output.trans h.output, Nat.le_trans h.size k.size, fun j hj hn => (k.block j (Nat.lt_of_lt_of_le hj h.size) hn).trans (h.block j hj hn)⟩
theorem OnlyB.drewN {b : Nat} {w w' : World} (h : OnlyB b w w') (q : Nat) : OnlyB b w (w'.drewN q) := ⟨h.os, h.tape, h.output, h.size, h.block⟩
set_option maxRecDepth 100000 in
set_option maxHeartbeats 2000000 in
/-- (*l00Src).byte -/
theorem byte_any (b : Nat) (a : Option Addr) (len cap at_ seed : Nat) (z : Nat → Nat) (hz : ∀ i, z i < 256) (hat : at_ ≤ 100000000) (hs : seed < 2147483648) (hl : len ≤ maxLen) (hsep : ∀ x, 0 < len → a = some x → x.block ≠ b) (w : World) (h : Src w b a len cap at_ seed) (hc : Code8 w a len z) :
    Calls Try.prog 101 #[.pointer (some ⟨b, 0, none⟩)] w fun e w' => e = .returned (.int .i64 ((drawB len z at_ seed).1 : Nat)) ∧ Src w' b a len cap (at_ + 1) (drawB len z at_ seed).2 ∧ OnlyB b w w' := by
  obtain ⟨h0, h1, h2, f1, f2⟩ := h
  have hl' : (len : Int) ≤ 9223372036854775807 := by unfold maxLen at hl; omega
  by_cases hin : at_ + 1 ≤ len
  · obtain ⟨cb, off, rfl, hcell⟩ := hc.opened (by omega)
    have hne : cb ≠ b := hsep _ (by omega) rfl
    have c1 := hcell at_ (by omega)
    have lz := hz at_
    have DR : Hid (drawB len z at_ seed = (z at_, (seed * 31 + z at_ + 7) % 2147483648)) := by show drawB _ _ _ _ = _; unfold drawB; rw [if_pos hin]
    have x1 : (at_ : Int) + 1 ≤ (len : Int) := by omega
    clear hc hcell hsep hz
    generalize z at_ = Z at *
    have em : ((seed : Int) * 31 + (Z : Int) + 7) % 2147483648 = (((seed * 31 + Z + 7) % 2147483648 : Nat) : Int) := by omega
    go_enter Try.func101, Try.ntmps101
    go_wp2
    have k0 : (w.setCell ⟨b, 1, none⟩ (.int .i64 ((at_ : Int) + 1))).cell? ⟨b, 0, none⟩ = some (.slice (some ⟨cb, off, none⟩) len cap) := by rw [World.cell?_setCell_other _ _ _ _ (by intro e; cases e)]; exact h0
    have k1 : (w.setCell ⟨b, 1, none⟩ (.int .i64 ((at_ : Int) + 1))).cell? ⟨b, 1, none⟩ = some (.int .i64 ((at_ : Int) + 1)) := World.cell?_setCell_same _ _ _ h1
    have k2 : (w.setCell ⟨b, 1, none⟩ (.int .i64 ((at_ : Int) + 1))).cell? ⟨b, 2, none⟩ = some (.int .i64 (seed : Nat)) := by rw [World.cell?_setCell_other _ _ _ _ (by intro e; cases e)]; exact h2
    have k3 : (w.setCell ⟨b, 1, none⟩ (.int .i64 ((at_ : Int) + 1))).cell? ⟨cb, off + at_, none⟩ = some (.int .u8 (Z : Nat)) := by rw [World.cell?_setCell_other _ _ _ _ (by intro e; exact hne (congrArg Addr.block e).symm)]; exact c1
    have g1 : (w.setCell ⟨b, 1, none⟩ (.int .i64 ((at_ : Int) + 1))).frozen? ⟨b, 1, none⟩ = false := by rw [World.frozen?_setCell]; exact f1
    have g2 : (w.setCell ⟨b, 1, none⟩ (.int .i64 ((at_ : Int) + 1))).frozen? ⟨b, 2, none⟩ = false := by rw [World.frozen?_setCell]; exact f2
    have HO : Hid (OnlyB b w (w.setCell ⟨b, 1, none⟩ (.int .i64 ((at_ : Int) + 1)))) := (OnlyB.refl b w).setCell 1 _
    clear h0 h1 h2 f1 f2 c1
    generalize (w.setCell ⟨b, 1, none⟩ (.int .i64 ((at_ : Int) + 1))) = w1 at *
    go_quiet (fail)
    rw [← World.cell?_drewN (n := nq)] at k0 k1 k2 k3
    rw [← World.frozen?_drewN (n := nq)] at g1 g2
    have HO2 : Hid (OnlyB b w (w1.drewN nq)) := HO.out.drewN nq
    clear HO
    generalize w1.drewN nq = w2 at *
    go_wp2
    have et : ((at_ : Int) + 1 - 1) = (at_ : Int) := by omega
    have x2 : (at_ : Int) < (len : Int) := by omega
    have x3 : (0 : Int) ≤ (at_ : Int) := by omega
    have ew : IntKind.i64.wrap (at_ : Int) = (at_ : Int) := IntWalk.i64_in _ ⟨by omega, by omega⟩
    have wS : IntKind.i64.wrap ((seed : Int) * 31) = (seed : Int) * 31 := IntWalk.i64_in _ ⟨by omega, by omega⟩
    have wZ : IntKind.i64.wrap (Z : Int) = (Z : Int) := IntWalk.i64_in _ ⟨by omega, by omega⟩
    have wA : IntKind.i64.wrap ((seed : Int) * 31 + (Z : Int)) = (seed : Int) * 31 + (Z : Int) := IntWalk.i64_in _ ⟨by omega, by omega⟩
    have wB : IntKind.i64.wrap ((seed : Int) * 31 + (Z : Int) + 7) = (seed : Int) * 31 + (Z : Int) + 7 := IntWalk.i64_in _ ⟨by omega, by omega⟩
    have tm : ((seed : Int) * 31 + (Z : Int) + 7).tmod 2147483648 = (((seed * 31 + Z + 7) % 2147483648 : Nat) : Int) := by
      rw [show (seed : Int) * 31 + (Z : Int) + 7 = ((seed * 31 + Z + 7 : Nat) : Int) from by omega]; exact (Int.ofNat_tmod (seed * 31 + Z + 7) 2147483648).symm
    generalize (seed * 31 + Z + 7) % 2147483648 = S' at *
    go_cut [0] (fun p wx => p = .pointer (some ⟨b, 0, none⟩) ∧ wx = (w2.setCell ⟨b, 2, none⟩ (.int .i64 (S' : Nat))).drew)
    case first =>
      go_region
      all_goals (go_wp2_with fail; go_meet; exact ⟨rfl, rfl⟩)
    case rest =>
      obtain ⟨rfl, rfl⟩ := hcut
      have q0 : ((w2.setCell ⟨b, 2, none⟩ (.int .i64 (S' : Nat))).drew).cell? ⟨b, 0, none⟩ = some (.slice (some ⟨cb, off, none⟩) len cap) := by
        show (w2.setCell ⟨b, 2, none⟩ (.int .i64 (S' : Nat))).cell? _ = _
        rw [World.cell?_setCell_other _ _ _ _ (by intro e; cases e)]; exact k0
      have q1 : ((w2.setCell ⟨b, 2, none⟩ (.int .i64 (S' : Nat))).drew).cell? ⟨b, 1, none⟩ = some (.int .i64 ((at_ : Int) + 1)) := by
        show (w2.setCell ⟨b, 2, none⟩ (.int .i64 (S' : Nat))).cell? _ = _
        rw [World.cell?_setCell_other _ _ _ _ (by intro e; cases e)]; exact k1
      have q2 : ((w2.setCell ⟨b, 2, none⟩ (.int .i64 (S' : Nat))).drew).cell? ⟨b, 2, none⟩ = some (.int .i64 (S' : Nat)) := by
        show (w2.setCell ⟨b, 2, none⟩ (.int .i64 (S' : Nat))).cell? _ = _
        exact World.cell?_setCell_same _ _ _ k2
      have q3 : ((w2.setCell ⟨b, 2, none⟩ (.int .i64 (S' : Nat))).drew).cell? ⟨cb, off + at_, none⟩ = some (.int .u8 (Z : Nat)) := by
        show (w2.setCell ⟨b, 2, none⟩ (.int .i64 (S' : Nat))).cell? _ = _
        rw [World.cell?_setCell_other _ _ _ _ (by intro e; exact hne (congrArg Addr.block e).symm)]; exact k3
      have q4 : ((w2.setCell ⟨b, 2, none⟩ (.int .i64 (S' : Nat))).drew).frozen? ⟨b, 1, none⟩ = false := by
        show (w2.setCell ⟨b, 2, none⟩ (.int .i64 (S' : Nat))).frozen? _ = _
        rw [World.frozen?_setCell]; exact g1
      have q5 : ((w2.setCell ⟨b, 2, none⟩ (.int .i64 (S' : Nat))).drew).frozen? ⟨b, 2, none⟩ = false := by
        show (w2.setCell ⟨b, 2, none⟩ (.int .i64 (S' : Nat))).frozen? _ = _
        rw [World.frozen?_setCell]; exact g2
      have HO3 : Hid (OnlyB b w ((w2.setCell ⟨b, 2, none⟩ (.int .i64 (S' : Nat))).drew)) := (HO2.out.setCell 2 _).drewN 1
      have HS3 : Hid (Src ((w2.setCell ⟨b, 2, none⟩ (.int .i64 (S' : Nat))).drew) b (some ⟨cb, off, none⟩) len cap (at_ + 1) S') := ⟨q0, q1, q2, q4, q5⟩
      clear k0 k1 k2 k3 g1 g2 HO2 q2 q4 q5
      generalize (w2.setCell ⟨b, 2, none⟩ (.int .i64 (S' : Nat))).drew = w3 at *
      go_wp2_with fail
      go_quiet (fail)
      go_wp2
      go_ret
      rw [DR.out]
      exact ⟨rfl, ⟨HS3.out.code, HS3.out.at1, HS3.out.seed2, HS3.out.free1, HS3.out.free2⟩, HO3.out.drewN _⟩
  · have x1 : ¬ (at_ : Int) + 1 ≤ (len : Int) := by omega
    have DR0 : Hid (drawB len z at_ seed = if 3000 < at_ + 1 then (0, seed) else ((seed * 1103515245 + 12345) % 2147483648 / 65536 % 256, (seed * 1103515245 + 12345) % 2147483648)) := by show drawB _ _ _ _ = _; unfold drawB; rw [if_neg hin]
    clear hc hsep hz hin
    go_enter Try.func101, Try.ntmps101
    go_wp2
    have k0 : (w.setCell ⟨b, 1, none⟩ (.int .i64 ((at_ : Int) + 1))).cell? ⟨b, 0, none⟩ = some (.slice a len cap) := by rw [World.cell?_setCell_other _ _ _ _ (by intro e; cases e)]; exact h0
    have k1 : (w.setCell ⟨b, 1, none⟩ (.int .i64 ((at_ : Int) + 1))).cell? ⟨b, 1, none⟩ = some (.int .i64 ((at_ : Int) + 1)) := World.cell?_setCell_same _ _ _ h1
    have k2 : (w.setCell ⟨b, 1, none⟩ (.int .i64 ((at_ : Int) + 1))).cell? ⟨b, 2, none⟩ = some (.int .i64 (seed : Nat)) := by rw [World.cell?_setCell_other _ _ _ _ (by intro e; cases e)]; exact h2
    have g1 : (w.setCell ⟨b, 1, none⟩ (.int .i64 ((at_ : Int) + 1))).frozen? ⟨b, 1, none⟩ = false := by rw [World.frozen?_setCell]; exact f1
    have g2 : (w.setCell ⟨b, 1, none⟩ (.int .i64 ((at_ : Int) + 1))).frozen? ⟨b, 2, none⟩ = false := by rw [World.frozen?_setCell]; exact f2
    have HO : Hid (OnlyB b w (w.setCell ⟨b, 1, none⟩ (.int .i64 ((at_ : Int) + 1)))) := (OnlyB.refl b w).setCell 1 _
    clear h0 h1 h2 f1 f2
    generalize (w.setCell ⟨b, 1, none⟩ (.int .i64 ((at_ : Int) + 1))) = w1 at *
    go_quiet (fail)
    rw [← World.cell?_drewN (n := nq)] at k0 k1 k2
    rw [← World.frozen?_drewN (n := nq)] at g1 g2
    have HO2 : Hid (OnlyB b w (w1.drewN nq)) := HO.out.drewN nq
    clear HO
    generalize w1.drewN nq = w2 at *
    have HS2 : Hid (Src w2 b a len cap (at_ + 1) seed) := ⟨k0, k1, k2, g1, g2⟩
    by_cases hbig : 3000 < at_ + 1
    · have x2 : (3000 : Int) < (at_ : Int) + 1 := by omega
      have DR : Hid (drawB len z at_ seed = (0, seed)) := by show drawB _ _ _ _ = _; rw [DR0.out, if_pos hbig]
      go_wp2
      go_ret
      rw [DR.out]
      exact ⟨rfl, HS2.out, HO2.out⟩
    · have x2 : ¬ (3000 : Int) < (at_ : Int) + 1 := by omega
      have DR : Hid (drawB len z at_ seed = ((seed * 1103515245 + 12345) % 2147483648 / 65536 % 256, (seed * 1103515245 + 12345) % 2147483648)) := by show drawB _ _ _ _ = _; rw [DR0.out, if_neg hbig]
      have wS : IntKind.i64.wrap ((seed : Int) * 1103515245) = (seed : Int) * 1103515245 := IntWalk.i64_in _ ⟨by omega, by omega⟩
      have wA : IntKind.i64.wrap ((seed : Int) * 1103515245 + 12345) = (seed : Int) * 1103515245 + 12345 := IntWalk.i64_in _ ⟨by omega, by omega⟩
      have tm : ((seed : Int) * 1103515245 + 12345).tmod 2147483648 = (((seed * 1103515245 + 12345) % 2147483648 : Nat) : Int) := by
        rw [show (seed : Int) * 1103515245 + 12345 = ((seed * 1103515245 + 12345 : Nat) : Int) from by omega]; exact (Int.ofNat_tmod (seed * 1103515245 + 12345) 2147483648).symm
      have em : ((seed : Int) * 1103515245 + 12345) % 2147483648 = (((seed * 1103515245 + 12345) % 2147483648 : Nat) : Int) := by omega
      have hS' : (seed * 1103515245 + 12345) % 2147483648 < 2147483648 := Nat.mod_lt _ (by omega)
      generalize (seed * 1103515245 + 12345) % 2147483648 = S' at *
      have HS3 : Hid (Src (w2.setCell ⟨b, 2, none⟩ (.int .i64 (S' : Nat))) b a len cap (at_ + 1) S') :=
        ⟨by rw [World.cell?_setCell_other _ _ _ _ (by intro e; cases e)]; exact k0, by rw [World.cell?_setCell_other _ _ _ _ (by intro e; cases e)]; exact k1, World.cell?_setCell_same _ _ _ k2, by rw [World.frozen?_setCell]; exact g1, by rw [World.frozen?_setCell]; exact g2⟩
      go_wp2
      go_ret
      rw [DR.out]
      exact ⟨by go_num, HS3.out, HO2.out.setCell 2 _⟩
set_option maxRecDepth 100000 in
/-- (*l00Src).next of at most 256 -/
theorem next_any (n : Nat) (hn : 2 ≤ n) (hn' : n ≤ 256) (b : Nat) (a : Option Addr) (len cap at_ seed : Nat) (z : Nat → Nat) (hz : ∀ i, z i < 256) (hat : at_ ≤ 100000000) (hs : seed < 2147483648) (hl : len ≤ maxLen) (hsep : ∀ x, 0 < len → a = some x → x.block ≠ b) (w : World) (h : Src w b a len cap at_ seed) (hc : Code8 w a len z) :
    Calls Try.prog 71 #[.pointer (some ⟨b, 0, none⟩), .int .i64 (n : Int)] w fun e w' => e = .returned (.int .i64 (((drawB len z at_ seed).1 % n : Nat) : Int)) ∧ Src w' b a len cap (at_ + 1) (drawB len z at_ seed).2 ∧ OnlyB b w w' := by
  have BY : Hid (∀ w : World, Src w b a len cap at_ seed → Code8 w a len z → Calls Try.prog 101 #[.pointer (some ⟨b, 0, none⟩)] w fun e w' => e = .returned (.int .i64 ((drawB len z at_ seed).1 : Nat)) ∧ Src w' b a len cap (at_ + 1) (drawB len z at_ seed).2 ∧ OnlyB b w w') := fun w h hc => byte_any b a len cap at_ seed z hz hat hs hl hsep w h hc
  have lb := (drawB_lt (len := len) hz (at_ := at_) hs).1
  have H : Hid (Src w b a len cap at_ seed) := h
  have HC : Hid (Code8 w a len z) := hc
  have x1 : ¬ (n : Int) ≤ 1 := by omega
  have x2 : (n : Int) ≤ 256 := by omega
  clear h hc hsep hz
  generalize (drawB len z at_ seed).1 = V at *
  generalize (drawB len z at_ seed).2 = S at *
  have em : ((V : Int)).tmod (n : Int) = ((V % n : Nat) : Int) := (Int.ofNat_tmod V n).symm
  have hn0 : ((n : Int) == 0) = false := by rw [beq_eq_false_iff_ne]; omega
  go_enter Try.func71, Try.ntmps71
  go_wp2_with fail
  refine (BY.out _ H.out HC.out).mono ?_
  rintro e w1 ⟨rfl, hs1, ho1⟩
  have HS1 : Hid (Src w1 b a len cap (at_ + 1) S) := hs1
  have HO1 : Hid (OnlyB b w w1) := ho1
  clear hs1 ho1
  go_wp2
  go_ret
  exact ⟨by go_num, HS1.out, HO1.out⟩
/-- The seed when k bytes more are drawn. -/
def seedK (len : Nat) (z : Nat → Nat) (at_ seed : Nat) : Nat → Nat
  | 0 => seed
  | k + 1 => (drawB len z (at_ + k) (seedK len z at_ seed k)).2
/-- The k-th byte that is drawn. -/
def byteK (len : Nat) (z : Nat → Nat) (at_ seed k : Nat) : Nat := (drawB len z (at_ + k) (seedK len z at_ seed k)).1
theorem seedK_lt {len : Nat} {z : Nat → Nat} (hz : ∀ i, z i < 256) {at_ seed : Nat} (hs : seed < 2147483648) : ∀ k, seedK len z at_ seed k < 2147483648
  | 0 => hs
  | k + 1 => (drawB_lt hz (seedK_lt hz hs k)).2
theorem byteK_lt {len : Nat} {z : Nat → Nat} (hz : ∀ i, z i < 256) {at_ seed : Nat} (hs : seed < 2147483648) (k : Nat) : byteK len z at_ seed k < 256 := (drawB_lt hz (seedK_lt hz hs k)).1
theorem OnlyB.belowAt {b : Nat} {w w' w'' : World} (h : OnlyB b w w') (hb : Below w.heap.size w' w'') : OnlyB b w w'' :=
  ⟨hb.os.trans h.os, hb.tape.trans h.tape, hb.output.trans h.output, Nat.le_trans h.size hb.size, fun k hk hn => (hb.block k hk).trans (h.block k hk hn)⟩
theorem ownsRow_onlyBQ {w w' : World} {b base : Nat} {e : TypeId} {size : Nat} {v : Value} {n : Nat} {xs : List Value} (h : w.ownsRow base e size v n xs) (ho : OnlyB b w w') (hb : b < base) : w'.ownsRow base e size v n xs := by
  obtain ⟨hl, h0 | ⟨g, cap, cur, hv, h1, hh, h2⟩⟩ := h
  · exact ⟨hl, .inl h0⟩
  · refine ⟨hl, .inr ⟨g, cap, cur, hv, h1, ?_, h2⟩⟩
    rw [ho.block g ?_ (by omega)]
    · exact hh
    · rcases Nat.lt_or_ge g w.heap.size with k | k
      · exact k
      · rw [Array.getElem?_eq_none k] at hh; cases hh
theorem Try.infoByte : (Try.prog.info? 5).map (fun i => (i.zero, i.size, i.bytes)) = some (some (.int .u8 0), 1, 1) := by kernel_rfl
theorem source_any (a : Option Addr) (len cap : Nat) (hl : len ≤ maxLen) (w : World) :
    Calls Try.prog 34 #[.slice a len cap] w fun e w' => e = .returned (.pointer (some ⟨w.heap.size, 0, none⟩)) ∧ Src w' w.heap.size a len cap 0 (len % 1000) ∧ Below w.heap.size w w' := by
  have hl' : (len : Int) ≤ 9223372036854775807 := by unfold maxLen at hl; omega
  have em : (len : Int) % 1000 = ((len % 1000 : Nat) : Int) := by omega
  have et : (len : Int).tmod 1000 = ((len % 1000 : Nat) : Int) := (Int.ofNat_tmod len 1000).symm
  generalize len % 1000 = M at *
  go_enter Try.func34, Try.ntmps34
  go_wp2
  go_ret
  refine ⟨rfl, ⟨?_, ?_, ?_, ?_, ?_⟩, (Below.refl _ _).alloc (Nat.le_refl _) _⟩
  · simp
  · simp
  · simp
  · simp
  · simp
end Go.Proofs.Ytdoacpnjggdojaa
