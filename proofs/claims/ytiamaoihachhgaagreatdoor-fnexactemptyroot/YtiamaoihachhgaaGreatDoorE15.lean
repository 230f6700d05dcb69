/-
  Texts of the proof, joined: Box3, DiskDefs, RowL, RowO, Els, ByRow, EOg, RetCell, InsJ, LeafS, LfOk, DiskTo, ErrIs, MarkD, DiskRow, NewD, ErF.
-/
import Derived.Test.YtiamaoihachhgaaGreatDoorE02
import Derived.Lib.AppendStr
import Derived.Lib.AppendZeros
import Derived.Maps.AppendAt
import Derived.Test.YtiamaoihachhgaaGreatDoorE03
import Derived.Test.YtiamaoihachhgaaGreatDoorE01
import Derived.Laws.ResultCell
import Derived.WalkKit
import Derived.Deep.RegionWith
import Derived.Test.YtiamaoihachhgaaGreatDoorE14
import Derived.LaidEql
import Derived.Stop.Asserts
import Derived.RowKitTokens
import Derived.Laws.OwnMore
import Derived.OwnWalk
namespace Go.Proofs.YtiamaoihachhgaaGreatDoor
open Go.ChangeShapes Go.WideShapes Go.ChangeAt Go.RowKit
def Box3 (w : World) (b : Nat) (t : TypeId) (x y z : Value) : Prop := w.rowIs b t 3 (fun i => if i = 0 then x else if i = 1 then y else z)
theorem Box3.c0 {w : World} {b : Nat} {t : TypeId} {x y z : Value} (h : Box3 w b t x y z) : w.cell? ⟨b, 0, none⟩ = some x := World.rowIs.cell h (i := 0) (by omega)
theorem Box3.c1 {w : World} {b : Nat} {t : TypeId} {x y z : Value} (h : Box3 w b t x y z) : w.cell? ⟨b, 1, none⟩ = some y := World.rowIs.cell h (i := 1) (by omega)
theorem Box3.c2 {w : World} {b : Nat} {t : TypeId} {x y z : Value} (h : Box3 w b t x y z) : w.cell? ⟨b, 2, none⟩ = some z := World.rowIs.cell h (i := 2) (by omega)
theorem Box3.fr {w : World} {b : Nat} {t : TypeId} {x y z : Value} (h : Box3 w b t x y z) (i : Nat) : w.frozen? ⟨b, i, none⟩ = false := World.rowIs.frozen h i
theorem Box3.lt {w : World} {b : Nat} {t : TypeId} {x y z : Value} (h : Box3 w b t x y z) : b < w.heap.size := World.rowIs.lt h
theorem Box3.ofBlock {w w' : World} {b : Nat} {t : TypeId} {x y z : Value} (h : Box3 w b t x y z) (e : w'.heap[b]? = w.heap[b]?) : Box3 w' b t x y z := World.rowIs.of_block h e
theorem Box3.below {w w' : World} {b : Nat} {t : TypeId} {x y z : Value} (h : Box3 w b t x y z) (hb : Below w.heap.size w w') : Box3 w' b t x y z := h.ofBlock (hb.block b h.lt)
theorem Box3.made (w : World) (t : TypeId) (x y z : Value) : Box3 (w.alloc (.cells #[x, y, z] t)) w.heap.size t x y z := World.rowIs_alloc w #[x, y, z] t _ (fun i hi => by
 rcases (show i = 0 ∨ i = 1 ∨ i = 2 by simp at hi; omega) with rfl | rfl | rfl <;> rfl)
theorem Box3.madeAt {w : World} {b : Nat} (hb : w.heap.size = b) (t : TypeId) (x y z : Value) : Box3 (w.alloc (.cells #[x, y, z] t)) b t x y z := by subst hb; exact Box3.made w t x y z
theorem Box3.alloc {w : World} {b : Nat} {t : TypeId} {x y z : Value} (h : Box3 w b t x y z) (o : Obj) : Box3 (w.alloc o) b t x y z := World.rowIs.alloc h o
theorem Box3.set0 {w : World} {b : Nat} {t : TypeId} {x y z : Value} (h : Box3 w b t x y z) (v : Value) : Box3 (w.setCell ⟨b, 0, none⟩ v) b t v y z := World.rowIs.congr (World.rowIs.set h 0 v) (fun i hi => by
 rcases (show i = 0 ∨ i = 1 ∨ i = 2 by omega) with rfl | rfl | rfl <;> rfl)
theorem Box3.set1 {w : World} {b : Nat} {t : TypeId} {x y z : Value} (h : Box3 w b t x y z) (v : Value) : Box3 (w.setCell ⟨b, 1, none⟩ v) b t x v z := World.rowIs.congr (World.rowIs.set h 1 v) (fun i hi => by
 rcases (show i = 0 ∨ i = 1 ∨ i = 2 by omega) with rfl | rfl | rfl <;> rfl)
theorem Box3.set2 {w : World} {b : Nat} {t : TypeId} {x y z : Value} (h : Box3 w b t x y z) (v : Value) : Box3 (w.setCell ⟨b, 2, none⟩ v) b t x y v := World.rowIs.congr (World.rowIs.set h 2 v) (fun i hi => by
 rcases (show i = 0 ∨ i = 1 ∨ i = 2 by omega) with rfl | rfl | rfl <;> rfl)
end Go.Proofs.YtiamaoihachhgaaGreatDoor
namespace Go.Proofs.YtiamaoihachhgaaGreatDoor
open Go.ChangeShapes Go.WideShapes Go.ChangeAt Go.RowKit
def Pens (w : World) (a : Option Addr) (n : Nat) (A : Nat → Int) (D : Nat → ByteArray) : Prop := ∀ i, i < n → ∃ b off, a = some ⟨b, off, none⟩ ∧ w.cell? ⟨b, off + i * 2, none⟩ = some (.int .i64 (A i)) ∧ w.cell? ⟨b, off + i * 2 + 1, none⟩ = some (.string (D i))
theorem Pens.opened {w : World} {a : Option Addr} {n : Nat} {A : Nat → Int} {D : Nat → ByteArray} (h : Pens w a n A D) (hn : 0 < n) :
  ∃ b off, a = some ⟨b, off, none⟩ ∧ ∀ i, i < n → w.cell? ⟨b, off + i * 2, none⟩ = some (.int .i64 (A i)) ∧ w.cell? ⟨b, off + i * 2 + 1, none⟩ = some (.string (D i)) := by
 obtain ⟨b, off, rfl, _⟩ := h 0 hn
 refine ⟨b, off, rfl, fun i hi => ?_⟩
 obtain ⟨b', off', hab, hc⟩ := h i hi
 cases hab
 exact hc
theorem Pens.below {w w' : World} {a : Option Addr} {n : Nat} {A : Nat → Int} {D : Nat → ByteArray} (h : Pens w a n A D) (hb : Below w.heap.size w w') : Pens w' a n A D := fun i hi => by
 obtain ⟨b, off, ha, hc, hd⟩ := h i hi
 exact ⟨b, off, ha, by rw [hb.cell (strBlock hc)]; exact hc, by rw [hb.cell (strBlock hd)]; exact hd⟩
structure Dk where
 nb : Nat
 B : Nat → ByteArray
 nc : Nat
 A : Nat → Int
 D : Nat → ByteArray
 ns : Nat
 S : Nat → ByteArray
structure Dk.Ok (d : Dk) : Prop where
 nb1 : 1 ≤ d.nb
 nb2 : d.nb ≤ 64
 nc : d.nc ≤ 4096
 ns : d.ns = 0 ∨ d.ns = d.nb
 B : ∀ i, i < d.nb → (d.B i).size ≤ 200
 C : ∀ i, i < d.nc → (0 ≤ d.A i ∧ d.A i < d.nb) ∧ (d.D i).size ≤ 200
 S : ∀ i, i < d.ns → (d.S i).size ≤ 200
open Classical in
noncomputable def Dk.ok (d : Dk) : Bool := decide d.Ok
theorem Dk.ok_true {d : Dk} (h : d.Ok) : d.ok = true := by unfold Dk.ok; simp [h]
theorem Dk.ok_false {d : Dk} (h : ¬ d.Ok) : d.ok = false := by unfold Dk.ok; simp [h]
def rdF (A : Nat → Int) (D : Nat → ByteArray) (b : ByteArray) (x : Int) : Nat → ByteArray
 | 0 => b
 | k + 1 => if A k = x then D k else rdF A D b x k
def Dk.rd (d : Dk) (x : Nat) : ByteArray := rdF d.A d.D (d.B x) (x : Int) d.nc
def lastM (A : Nat → Int) (D : Nat → ByteArray) : Nat → Int → Option Value
 | 0, _ => none
 | k + 1, x => if x = A k then some (.agg #[.int .i64 (A k), .string (D k)]) else lastM A D k x
theorem lastM_rd (A : Nat → Int) (D : Nat → ByteArray) (b : ByteArray) (x : Int) (k : Nat) : (lastM A D k x = none ∧ rdF A D b x k = b) ∨ lastM A D k x = some (.agg #[.int .i64 x, .string (rdF A D b x k)]) := by
 induction k with
 | zero => exact .inl ⟨rfl, rfl⟩
 | succ k ih =>
  unfold lastM rdF
  by_cases h : A k = x
  ·right
   rw [if_pos h.symm, if_pos h, h]
  ·rw [if_neg (fun e => h e.symm), if_neg h]
   exact ih
def DiskV (w : World) (d : Dk) (a0 a1 a2 : Option Addr) : Prop := Strs w a0 d.nb d.B ∧ Pens w a1 d.nc d.A d.D ∧ Strs w a2 d.ns d.S
theorem DiskV.below {w w' : World} {d : Dk} {a0 a1 a2 : Option Addr} (h : DiskV w d a0 a1 a2) (hb : Below w.heap.size w w') : DiskV w' d a0 a1 a2 := ⟨h.1.below hb, h.2.1.below hb, h.2.2.below hb⟩
def ErrAt (w : World) (g : Nat) (p : Addr) : Prop := w.cell? ⟨g, 0, none⟩ = some (.iface 273 (.pointer (some p)))
theorem ErrAt.below {w w' : World} {g : Nat} {p : Addr} (h : ErrAt w g p) (hb : Below w.heap.size w w') : ErrAt w' g p := by
 unfold ErrAt at *
 rw [hb.cell (strBlock h)]; exact h
end Go.Proofs.YtiamaoihachhgaaGreatDoor
namespace Go.Proofs.YtiamaoihachhgaaGreatDoor
open Go.ChangeShapes Go.WideShapes Go.ChangeAt Go.RowKit
set_option linter.unusedVariables false
def lv (L : List Nat) : List Value := L.map fun b => .int .u8 ((b : Nat) : Int)
theorem lv_append (L N : List Nat) : lv (L ++ N) = lv L ++ lv N := List.map_append
theorem lv_length (L : List Nat) : (lv L).length = L.length := List.length_map _
def RL (w : World) (B g c : Nat) (L : List Nat) : Prop := w.ownsRow B 5 1 (.slice (some ⟨g, 0, none⟩) L.length c) L.length (lv L)
theorem RL.cell {w : World} {B g c : Nat} {L : List Nat} (h : RL w B g c L) (i : Nat) (hi : i < L.length) : w.cell? ⟨g, i, none⟩ = some (.int .u8 ((L[i] : Nat) : Int)) := by
 obtain ⟨hl, ⟨h1, h2⟩ | ⟨g', cap, cur, hv, hB, hh, hn, hm, hs, ht⟩⟩ := h
 ·cases h1
 ·cases hv
  have h1 : (cur.toList.take (L.length * 1))[i]? = some (.int .u8 ((L[i] : Nat) : Int)) := by rw [ht]; simp [lv, hi]
  rw [List.getElem?_take, if_pos (by omega), Array.getElem?_toList] at h1
  simp [World.cell?, hh, h1]
theorem RL.made (w : World) (cs : Array Value) (L : List Nat) (n : Nat) (hn : L.length = n) (hm : n ≤ 1000000) (e : cs.toList = lv L) : RL (w.alloc (.cells cs 5)) w.heap.size w.heap.size n L := by
 have hs : cs.size = L.length := by rw [← Array.length_toList, e, lv_length]
 refine ⟨by rw [lv_length, Nat.mul_one], .inr ⟨w.heap.size, n, cs, rfl, Nat.le_refl _, (MapKept.heap_alloc w _).1, by omega, by unfold maxLen; omega, by omega, by rw [Nat.mul_one, e, List.take_of_length_le (by rw [lv_length]; omega)]⟩⟩
theorem Tryz.infoB8 : (Tryz.prog.info? 5).map (fun i => (i.zero, i.size, i.bytes)) = some (some (.int .u8 0), 1, 1) := by kernel_rfl
def strL (s : ByteArray) : List Nat := s.data.toList.map UInt8.toNat
theorem strL_length (s : ByteArray) : (strL s).length = s.size := by unfold strL; rw [List.length_map, Array.length_toList]; rfl
def numP (sz x r : Nat) : List Nat := (List.range r).map fun j => x / 2 ^ (8 * (sz - 1 - j)) % 256
def numL (sz x : Nat) : List Nat := numP sz x sz
theorem numP_succ (sz x r : Nat) : numP sz x (r + 1) = numP sz x r ++ [x / 2 ^ (8 * (sz - 1 - r)) % 256] := by unfold numP; rw [List.range_succ, List.map_append]; rfl
theorem numP_length (sz x r : Nat) : (numP sz x r).length = r := by unfold numP; simp
theorem numL_length (sz x : Nat) : (numL sz x).length = sz := numP_length sz x sz
theorem numEqL {a b : Int} (h : a = b) : Value.int .i64 a = .int .i64 b := by rw [h]
end Go.Proofs.YtiamaoihachhgaaGreatDoor
namespace Go.Proofs.YtiamaoihachhgaaGreatDoor
open Go.ChangeShapes Go.WideShapes Go.ChangeAt Go.RowKit
set_option linter.unusedVariables false
def OL (w : World) (B : Nat) (v : Value) (L : List Nat) : Prop := w.ownsRow B 5 1 v L.length (lv L)
theorem OL.nil (w : World) (B : Nat) : OL w B (.slice none 0 0) [] := ⟨by simp [lv], .inl ⟨rfl, rfl⟩⟩
theorem OL.form {w : World} {B : Nat} {v : Value} {L : List Nat} (h : OL w B v L) : ∃ a c, v = .slice a L.length c := by
 obtain ⟨hl, ⟨h1, h2⟩ | ⟨g', cap, cur, hv, _⟩⟩ := h
 ·rw [h2]; exact ⟨_, _, h1⟩
 ·exact ⟨_, _, hv⟩
theorem OL.ge {w : World} {B : Nat} {v : Value} {L : List Nat} (h : OL w B v L) (g : Nat) (e : v.ownBlock = some g) : B ≤ g ∧ g < w.heap.size := World.ownsRow.lt h g e
theorem OL.keep {w w' : World} {B : Nat} {v : Value} {L : List Nat} (h : OL w B v L) (e : ∀ g, v.ownBlock = some g → w'.heap[g]? = w.heap[g]?) : OL w' B v L := by
 obtain ⟨hl, h0 | ⟨g', cap, cur, hv, hB, hh, hr⟩⟩ := h
 ·exact ⟨hl, .inl h0⟩
 ·subst hv
  exact ⟨hl, .inr ⟨g', cap, cur, rfl, hB, by rw [e g' rfl]; exact hh, hr⟩⟩
theorem OL.below {w w' : World} {B : Nat} {v : Value} {L : List Nat} (h : OL w B v L) (hb : Below w.heap.size w w') : OL w' B v L := h.keep (fun g e => hb.block g (h.ge g e).2)
theorem OL.mono {w : World} {B B' : Nat} {v : Value} {L : List Nat} (h : OL w B v L) (hb : B' ≤ B) : OL w B' v L := by
 obtain ⟨hl, h0 | ⟨g', cap, cur, hv, hB, hr⟩⟩ := h
 ·exact ⟨hl, .inl h0⟩
 ·exact ⟨hl, .inr ⟨g', cap, cur, hv, Nat.le_trans hb hB, hr⟩⟩
theorem OL.grown {w w' : World} {B : Nat} {v : Value} {L : List Nat} (h : OL w B v L) (hg : w.grownBy w' v.ownBlock) (hB : B ≤ w.heap.size) : Below B w w' :=
 ⟨hg.os, hg.tape, hg.output, hg.size, fun b hb => hg.block b (by omega) (fun e => by have := (h.ge b e.symm).1; omega)⟩
theorem RL.ol {w : World} {B g c : Nat} {L : List Nat} (h : RL w B g c L) : OL w B (.slice (some ⟨g, 0, none⟩) L.length c) L := h
set_option maxRecDepth 100000 in
theorem OL.app (w : World) (B : Nat) (v : Value) (L N : List Nat) (q o cq m : Nat) (hm : m = N.length) (hB : B ≤ w.heap.size) (hl : L.length + N.length ≤ 1000000) (h : OL w B v L) (hN : ∀ j (hj : j < N.length), w.cell? ⟨q, o + j, none⟩ = some (.int .u8 ((N[j] : Nat) : Int))) :
  ∃ v' w', (∀ ty, (Builtin.append_ #[41, 41] ty #[v, .slice (some ⟨q, o, none⟩) m cq]).run Tryz.prog w = .ok v' w') ∧ OL w' B v' (L ++ N) ∧ Below B w w' ∧ w.grownBy w' v.ownBlock := by
 subst hm
 obtain ⟨i, hi, hz, hsz, hby⟩ := info_parts Tryz.infoB8
 obtain ⟨v', w', hr, ho, hg, hne, hloc⟩ := run_append_own_at (P := Tryz.prog) w B 41 41 5 i (.int .u8 0) 1 1 Tryz.underlying41 hi hz hsz hby rfl (by decide) _ L.length _ h ⟨q, o, none⟩ N.length cq (lv N) (by rw [lv_length, Nat.mul_one]) (fun j u hj => by
  rw [Go.WideShapes.add_plain]
  unfold lv at hj
  rw [List.getElem?_map, Option.map_eq_some_iff] at hj
  obtain ⟨b, hb, rfl⟩ := hj
  obtain ⟨hj', rfl⟩ := List.getElem?_eq_some_iff.1 hb
  exact hN j hj') (fun u hu => by
   obtain ⟨_, _, rfl⟩ := List.mem_map.1 hu
   rfl) (by unfold maxLen; omega) (by omega) hB
 rw [← lv_append, ← List.length_append] at ho
 exact ⟨v', w', fun ty => hr, ho, h.grown hg hB, hg⟩
set_option maxRecDepth 100000 in
theorem OL.appS (w : World) (B : Nat) (v : Value) (L : List Nat) (s : ByteArray) (hB : B ≤ w.heap.size) (hl : L.length + s.size ≤ 1000000) (h : OL w B v L) :
  ∃ v' w', (∀ ty, (Builtin.append_ #[41, 9] ty #[v, .string s]).run Tryz.prog w = .ok v' w') ∧ OL w' B v' (L ++ strL s) ∧ Below B w w' ∧ w.grownBy w' v.ownBlock := by
 obtain ⟨i, hi, hz, hsz, hby⟩ := info_parts Tryz.infoB8
 obtain ⟨v', w', hr, ho, hg, hne⟩ := Lib.run_append_own_string (P := Tryz.prog) w B 41 9 41 5 i Tryz.underlying41 Tryz.underlying9 hi hz hsz hby _ L.length _ h s (by unfold maxLen; omega) (by omega) hB
 have e1 : Lib.strCells s = lv (strL s) := by
  unfold Lib.strCells lv strL
  simp
 rw [e1, ← lv_append, ← strL_length s, ← List.length_append] at ho
 exact ⟨v', w', fun ty => hr, ho, h.grown hg hB, hg⟩
set_option maxRecDepth 100000 in
set_option maxHeartbeats 2000000 in
theorem appendNumberO (B : Nat) (a : Option Addr) (n c x sz : Nat) (L : List Nat) (hn : n = L.length) (hsz : sz ≤ 8) (hk : L.length ≤ 900000) (w : World) (hB : B ≤ w.heap.size) (h : OL w B (.slice a n c) L) :
  Calls Tryz.prog 32 #[.slice a n c, .int .i64 (x : Int), .int .i64 (sz : Int)] w fun e w' => (∃ a' c', e = .returned (.slice a' (n + sz) c') ∧ OL w' B (.slice a' (n + sz) c') (L ++ numL sz x)) ∧ Below B w w' := by
 have HR : Hid (OL w B (.slice a n c) L) := h
 have HK : Hid (L.length ≤ 900000) := hk
 have HN : Hid (n = L.length) := hn
 have HBB : Hid (B ≤ w.heap.size) := hB
 clear h hk hB hn
 go_enter Tryz.func32, Tryz.ntmps32
 go_wp2
 go_loopw [0, 7] (fun s i wr => ∃ (r c2 : Nat) (a2 : Option Addr), r ≤ sz ∧ i = .int .i64 ((sz : Int) - 1 - (r : Int)) ∧ s = .slice a2 (n + r) c2 ∧ OL wr B (.slice a2 (n + r) c2) (L ++ numP sz x r) ∧ Below B w wr) (fun _ i _ => (intOf i + 1).toNat)
 case atStart => exact ⟨0, c, a, by omega, numEqL (by omega), rfl, by unfold numP; simpa using HR.out, Below.refl _ _⟩
 case round =>
  clear HR
  obtain ⟨r, c2, a2, hr, rfl, rfl, hrow, ho⟩ := hrel
  have HR : Hid (OL wr B (.slice a2 (n + r) c2) (L ++ numP sz x r)) := hrow
  have HO : Hid (Below B w wr) := ho
  clear hrow ho
  by_cases hlt : r < sz
  ·have x0 : (0 : Int) ≤ (sz : Int) - 1 - (r : Int) := by omega
   obtain ⟨s, hs⟩ : ∃ s, s = 8 * (sz - 1 - r) := ⟨_, rfl⟩
   have e8 : (8 : Int) * ((sz : Int) - 1 - (r : Int)) = (s : Int) := by omega
   have s0 : (0 : Int) ≤ (s : Int) := by omega
   have s1 : (s : Int) ≤ 64 := by omega
   have eX : (x : Int) / 2 ^ s = ((x / 2 ^ s : Nat) : Int) := by simp
   have HX : Hid (numP sz x (r + 1) = numP sz x r ++ [x / 2 ^ s % 256]) := by show _ = _; rw [numP_succ, hs]
   generalize x / 2 ^ s = y at *
   have eY : (y : Int) % 256 = ((y % 256 : Nat) : Int) := by omega
   generalize y % 256 = Y at *
   have hw : (w.heap.size ≤ wr.heap.size) := HO.out.size
   have hb : Below wr.heap.size wr (wr.alloc (.cells #[.int .u8 (Y : Nat)] 5)) := (Below.refl _ _).alloc (Nat.le_refl _) _
   obtain ⟨v3, w3, hr3, hrow3, ho3, _⟩ := OL.app (wr.alloc (.cells #[.int .u8 (Y : Nat)] 5)) B (.slice a2 (n + r) c2) (L ++ numP sz x r) [Y] wr.heap.size 0 1 1 rfl (by have := HBB.out; simp; omega) (by have := HK.out; rw [List.length_append, numP_length]; simp; omega) (HR.out.below hb) (fun j hj => by
    obtain rfl : j = 0 := by simpa using hj
    have : ((wr.alloc (.cells #[.int .u8 (Y : Nat)] 5)).rowIs wr.heap.size 5 1 (fun _ => .int .u8 (Y : Nat))) := World.rowIs_alloc wr #[.int .u8 (Y : Nat)] 5 _ (fun i hi => by
     obtain rfl : i = 0 := by simpa using hi
     rfl)
    exact this.cell (by omega))
   obtain ⟨a3, c3, rfl⟩ := hrow3.form
   have el2 : (L ++ numP sz x r ++ [Y]).length = n + (r + 1) := by rw [List.length_append, List.length_append, numP_length, HN.out]; simp; omega
   rw [el2] at hr3 hrow3
   have HR3 : Hid (OL w3 B (.slice a3 (n + (r + 1)) c3) (L ++ numP sz x (r + 1))) := by show OL _ _ _ _; rw [HX.out, ← List.append_assoc]; exact hrow3
   have HO3 : Hid (Below B w w3) := HO.out.trans ((hb.mono (by have := HBB.out; omega)).trans ho3)
   have hHK : Hid ((sz : Int) - 1 - (r : Int) - 1 = (sz : Int) - 1 - ((r + 1 : Nat) : Int)) := by show _ = _; omega
   clear hrow3 ho3 hs HR HO HX el2 hb
   go_wp2_with (at_builtin; refine Lib.wpList_append_run _ rfl (.tmp 14) (.tmp 20) 41 41 rfl (.slice a2 (n + r) c2) (.slice (some ⟨wr.heap.size, 0, none⟩) 1 1) rfl rfl _ _ (hr3 _) ?_)
   go_roundw
   case rel => exact ⟨r + 1, c3, a3, by omega, numEqL hHK.out, rfl, HR3.out, HO3.out⟩
   case measure => simp [intOf]; omega
  ·obtain rfl : r = sz := by omega
   have x0 : ¬ (0 : Int) ≤ (r : Int) - 1 - (r : Int) := by omega
   go_wp2
   go_ret
   exact ⟨⟨a2, c2, rfl, HR.out⟩, HO.out⟩
end Go.Proofs.YtiamaoihachhgaaGreatDoor
namespace Go.Proofs.YtiamaoihachhgaaGreatDoor
open Go.ChangeShapes Go.WideShapes Go.ChangeAt Go.RowKit
def Els (w : World) (s : Nat) (a : Option Addr) (n : Nat) (F : Nat → Nat → Value) : Prop := ∀ i, i < n → ∃ b off, a = some ⟨b, off, none⟩ ∧ ∀ j, j < s → w.cell? ⟨b, off + i * s + j, none⟩ = some (F i j)
theorem Els.opened {w : World} {s : Nat} {a : Option Addr} {n : Nat} {F : Nat → Nat → Value} (h : Els w s a n F) (hn : 0 < n) :
  ∃ b off, a = some ⟨b, off, none⟩ ∧ ∀ i, i < n → ∀ j, j < s → w.cell? ⟨b, off + i * s + j, none⟩ = some (F i j) := by
 obtain ⟨b, off, rfl, _⟩ := h 0 hn
 refine ⟨b, off, rfl, fun i hi => ?_⟩
 obtain ⟨b', off', hab, hc⟩ := h i hi
 cases hab
 exact hc
theorem Els.below {w w' : World} {s : Nat} {a : Option Addr} {n : Nat} {F : Nat → Nat → Value} (h : Els w s a n F) (hb : Below w.heap.size w w') : Els w' s a n F := fun i hi => by
 obtain ⟨b, off, ha, hc⟩ := h i hi
 exact ⟨b, off, ha, fun j hj => by rw [hb.cell (strBlock (hc j hj))]; exact hc j hj⟩
theorem Els.less {w : World} {s : Nat} {a : Option Addr} {n m : Nat} {F : Nat → Nat → Value} (h : Els w s a n F) (hm : m ≤ n) : Els w s a m F := fun i hi => h i (by omega)
structure RowE (w : World) (s : Nat) (a : Option Addr) (g n : Nat) (F : Nat → Nat → Value) : Prop where
 a : 0 < n → a = some ⟨g, 0, none⟩
 c : ∀ i, i < n → ∀ j, j < s → w.cell? ⟨g, i * s + j, none⟩ = some (F i j)
 z : ∀ i, i < n * s → w.frozen? ⟨g, i, none⟩ = false
theorem posE {n s : Nat} {i : Nat} (h : i < n * s) : 0 < n := by
 rcases Nat.eq_zero_or_pos n with rfl | q
 ·omega
 ·exact q
theorem RowE.els {w : World} {s : Nat} {a : Option Addr} {g n : Nat} {F : Nat → Nat → Value} (h : RowE w s a g n F) : Els w s a n F := fun i hi => ⟨g, 0, h.a (by omega), fun j hj => by rw [Nat.zero_add]; exact h.c i hi j hj⟩
theorem RowE.nil (w : World) (s : Nat) (a : Option Addr) (g : Nat) (F : Nat → Nat → Value) : RowE w s a g 0 F := ⟨fun h => absurd h (by omega), fun i hi => absurd hi (by omega), fun i hi => absurd (posE hi) (by omega)⟩
theorem divE {s i j : Nat} (hj : j < s) : (i * s + j) / s = i ∧ (i * s + j) % s = j := by
 have hs : 0 < s := by omega
 constructor
 ·rw [Nat.mul_comm, Nat.mul_add_div hs, Nat.div_eq_of_lt hj, Nat.add_zero]
 ·rw [Nat.mul_comm, Nat.mul_add_mod, Nat.mod_eq_of_lt hj]
theorem ltE {s i j n : Nat} (hi : i < n) (hj : j < s) : i * s + j < n * s := by
 have : (i + 1) * s ≤ n * s := Nat.mul_le_mul_right s hi
 rw [Nat.add_mul, Nat.one_mul] at this
 omega
def Box2 (w : World) (b : Nat) (t : TypeId) (x y : Value) : Prop := w.rowIs b t 2 (fun i => if i = 0 then x else y)
theorem Box2.c0 {w : World} {b : Nat} {t : TypeId} {x y : Value} (h : Box2 w b t x y) : w.cell? ⟨b, 0, none⟩ = some x := World.rowIs.cell h (i := 0) (by omega)
theorem Box2.c1 {w : World} {b : Nat} {t : TypeId} {x y : Value} (h : Box2 w b t x y) : w.cell? ⟨b, 1, none⟩ = some y := World.rowIs.cell h (i := 1) (by omega)
theorem Box2.fr {w : World} {b : Nat} {t : TypeId} {x y : Value} (h : Box2 w b t x y) (i : Nat) : w.frozen? ⟨b, i, none⟩ = false := World.rowIs.frozen h i
theorem Box2.lt {w : World} {b : Nat} {t : TypeId} {x y : Value} (h : Box2 w b t x y) : b < w.heap.size := World.rowIs.lt h
theorem Box2.ofBlock {w w' : World} {b : Nat} {t : TypeId} {x y : Value} (h : Box2 w b t x y) (e : w'.heap[b]? = w.heap[b]?) : Box2 w' b t x y := World.rowIs.of_block h e
theorem Box2.below {w w' : World} {b : Nat} {t : TypeId} {x y : Value} (h : Box2 w b t x y) (hb : Below w.heap.size w w') : Box2 w' b t x y := h.ofBlock (hb.block b h.lt)
theorem Box2.onlyB {w w' : World} {b g : Nat} {t : TypeId} {x y : Value} (h : Box2 w b t x y) (ho : OnlyB g w w') (hne : b ≠ g) : Box2 w' b t x y := h.ofBlock (ho.block b h.lt hne)
theorem Box2.made (w : World) (t : TypeId) (x y : Value) : Box2 (w.alloc (.cells #[x, y] t)) w.heap.size t x y := World.rowIs_alloc w #[x, y] t _ (fun i hi => by
 rcases (show i = 0 ∨ i = 1 by simp at hi; omega) with rfl | rfl <;> rfl)
theorem Box2.madeAt {w : World} {b : Nat} (hb : w.heap.size = b) (t : TypeId) (x y : Value) : Box2 (w.alloc (.cells #[x, y] t)) b t x y := by subst hb; exact Box2.made w t x y
theorem Box2.alloc {w : World} {b : Nat} {t : TypeId} {x y : Value} (h : Box2 w b t x y) (o : Obj) : Box2 (w.alloc o) b t x y := World.rowIs.alloc h o
theorem Box2.set0 {w : World} {b : Nat} {t : TypeId} {x y : Value} (h : Box2 w b t x y) (v : Value) : Box2 (w.setCell ⟨b, 0, none⟩ v) b t v y := World.rowIs.congr (World.rowIs.set h 0 v) (fun i hi => by
 rcases (show i = 0 ∨ i = 1 by omega) with rfl | rfl <;> rfl)
theorem Box2.set1 {w : World} {b : Nat} {t : TypeId} {x y : Value} (h : Box2 w b t x y) (v : Value) : Box2 (w.setCell ⟨b, 1, none⟩ v) b t x v := World.rowIs.congr (World.rowIs.set h 1 v) (fun i hi => by
 rcases (show i = 0 ∨ i = 1 by omega) with rfl | rfl <;> rfl)
end Go.Proofs.YtiamaoihachhgaaGreatDoor
namespace Go.Proofs.YtiamaoihachhgaaGreatDoor
open Go.ChangeShapes Go.WideShapes Go.ChangeAt Go.RowKit
set_option linter.unusedVariables false
def ByR (w : World) (a : Option Addr) (g n : Nat) (f : Nat → Nat) : Prop := n = 0 ∨ (a = some ⟨g, 0, none⟩ ∧ Own8 w g n f)
theorem ByR.code {w : World} {a : Option Addr} {g n : Nat} {f : Nat → Nat} (h : ByR w a g n f) : Code8 w a n f := by
 rcases h with rfl | ⟨rfl, hr⟩
 ·exact code8_zero _ _ _
 ·exact hr.code
theorem OL.byR {w : World} {B : Nat} {a : Option Addr} {n c : Nat} {L : List Nat} (h : OL w B (.slice a n c) L) (hn : n = L.length) : ∃ g, ByR w a g n (fun i => L.getD i 0) ∧ (0 < n → B ≤ g ∧ g < w.heap.size) := by
 have e : lv L = bv L.length (fun i => L.getD i 0) := by
  unfold lv bv
  refine List.ext_getElem (by simp) (fun i h1 h2 => ?_)
  simp at h1
  simp [h1]
 subst hn
 obtain ⟨a2, cap, hv, ho⟩ := ownS_of_owned (f := fun i => L.getD i 0) (by rw [← e]; exact h)
 cases hv
 rcases ho with q | ⟨b, hB, e2, ho⟩
 ·exact ⟨0, .inl q, fun z => absurd z (by omega)⟩
 ·exact ⟨b, .inr ⟨e2, ho⟩, fun _ => ⟨hB, ho.lt⟩⟩
end Go.Proofs.YtiamaoihachhgaaGreatDoor
namespace Go.Proofs.YtiamaoihachhgaaGreatDoor
open Go.ChangeShapes Go.WideShapes Go.ChangeAt Go.RowKit
set_option linter.unusedVariables false
def elv (s n : Nat) (F : Nat → Nat → Value) : List Value := (List.range (n * s)).map fun i => F (i / s) (i % s)
theorem elv_length (s n : Nat) (F : Nat → Nat → Value) : (elv s n F).length = n * s := by unfold elv; simp
theorem elv_congr {s n : Nat} {F G : Nat → Nat → Value} (h : ∀ i, i < n → ∀ j, j < s → F i j = G i j) : elv s n F = elv s n G := List.map_congr_left (fun i hi => by
 have hi' := List.mem_range.1 hi
 have hs : 0 < s := by
  rcases Nat.eq_zero_or_pos s with rfl | q
  ·omega
  ·exact q
 exact h _ ((Nat.div_lt_iff_lt_mul hs).2 hi') _ (Nat.mod_lt _ hs))
theorem elv_snoc (s n : Nat) (F : Nat → Nat → Value) : elv s (n + 1) F = elv s n F ++ (List.range s).map (F n) := by
 unfold elv
 rw [Nat.add_mul, Nat.one_mul, List.range_add, List.map_append, List.map_map]
 congr 1
 exact List.map_congr_left (fun j hj => by
  have hj' := List.mem_range.1 hj
  show F ((n * s + j) / s) ((n * s + j) % s) = F n j
  rw [(divE hj').1, (divE hj').2])
def EO (w : World) (B : Nat) (t : TypeId) (s : Nat) (v : Value) (n : Nat) (F : Nat → Nat → Value) : Prop := w.ownsRow B t s v n (elv s n F)
theorem EO.nil (w : World) (B : Nat) (t : TypeId) (s : Nat) (F : Nat → Nat → Value) : EO w B t s (.slice none 0 0) 0 F := ⟨by rw [elv_length], .inl ⟨rfl, rfl⟩⟩
theorem EO.form {w : World} {B : Nat} {t : TypeId} {s : Nat} {v : Value} {n : Nat} {F : Nat → Nat → Value} (h : EO w B t s v n F) : ∃ a c, v = .slice a n c := by
 obtain ⟨hl, ⟨h1, h2⟩ | ⟨g', cap, cur, hv, _⟩⟩ := h
 ·subst h2; exact ⟨_, _, h1⟩
 ·exact ⟨_, _, hv⟩
theorem EO.congr {w : World} {B : Nat} {t : TypeId} {s : Nat} {v : Value} {n : Nat} {F G : Nat → Nat → Value} (h : EO w B t s v n F) (e : ∀ i, i < n → ∀ j, j < s → F i j = G i j) : EO w B t s v n G := by unfold EO at *; rw [← elv_congr e]; exact h
theorem EO.ge {w : World} {B : Nat} {t : TypeId} {s : Nat} {v : Value} {n : Nat} {F : Nat → Nat → Value} (h : EO w B t s v n F) (g : Nat) (e : v.ownBlock = some g) : B ≤ g ∧ g < w.heap.size := World.ownsRow.lt h g e
theorem EO.keep {w w' : World} {B : Nat} {t : TypeId} {s : Nat} {v : Value} {n : Nat} {F : Nat → Nat → Value} (h : EO w B t s v n F) (e : ∀ g, v.ownBlock = some g → w'.heap[g]? = w.heap[g]?) : EO w' B t s v n F := by
 obtain ⟨hl, h0 | ⟨g', cap, cur, hv, hB, hh, hr⟩⟩ := h
 ·exact ⟨hl, .inl h0⟩
 ·subst hv
  exact ⟨hl, .inr ⟨g', cap, cur, rfl, hB, by rw [e g' rfl]; exact hh, hr⟩⟩
theorem EO.below {w w' : World} {B : Nat} {t : TypeId} {s : Nat} {v : Value} {n : Nat} {F : Nat → Nat → Value} (h : EO w B t s v n F) (hb : Below w.heap.size w w') : EO w' B t s v n F := h.keep (fun g e => hb.block g (h.ge g e).2)
theorem EO.onlyB {w w' : World} {B q : Nat} {t : TypeId} {s : Nat} {v : Value} {n : Nat} {F : Nat → Nat → Value} (h : EO w B t s v n F) (ho : OnlyB q w w') (hq : q < B) : EO w' B t s v n F := h.keep (fun g e => ho.block g (h.ge g e).2 (by have := (h.ge g e).1; omega))
theorem EO.rowE {w : World} {B : Nat} {t : TypeId} {s : Nat} {a : Option Addr} {n c : Nat} {F : Nat → Nat → Value} (h : EO w B t s (.slice a n c) n F) : ∃ g, RowE w s a g n F ∧ (0 < n → B ≤ g) := by
 obtain ⟨hl, ⟨h1, h2⟩ | ⟨g, cap, cur, hv, hB, hh, hn, hm, hs, ht⟩⟩ := h
 ·subst h2
  exact ⟨0, RowE.nil _ _ _ _ _, fun q => absurd q (by omega)⟩
 ·cases hv
  have each : ∀ i, i < n * s → w.cell? ⟨g, i, none⟩ = some (F (i / s) (i % s)) := fun i hi => by
   have h1 : (cur.toList.take (n * s))[i]? = some (F (i / s) (i % s)) := by rw [ht]; simp [elv, hi]
   rw [List.getElem?_take, if_pos hi, Array.getElem?_toList] at h1
   simp [World.cell?, hh, h1]
  refine ⟨g, ⟨fun _ => rfl, fun i hi j hj => ?_, fun i hi => by simp [World.frozen?, hh]⟩, fun _ => hB⟩
  have := each (i * s + j) (ltE hi hj)
  rw [(divE hj).1, (divE hj).2] at this
  exact this
theorem EO.els {w : World} {B : Nat} {t : TypeId} {s : Nat} {a : Option Addr} {n c : Nat} {F : Nat → Nat → Value} (h : EO w B t s (.slice a n c) n F) : Els w s a n F := by
 obtain ⟨g, h1, _⟩ := h.rowE
 exact h1.els
def updE {T : Type} (f : Nat → T) (k : Nat) (x : T) (i : Nat) : T := if i = k then x else f i
def catE {T : Type} (n : Nat) (f g : Nat → T) (i : Nat) : T := if i < n then f i else g (i - n)
theorem catE_lt {T : Type} {n i : Nat} (f g : Nat → T) (h : i < n) : catE n f g i = f i := if_pos h
theorem catE_at {T : Type} (n i : Nat) (f g : Nat → T) : catE n f g (n + i) = g i := by
 unfold catE
 rw [if_neg (by omega), Nat.add_sub_cancel_left]
theorem catE_zero {T : Type} (f g : Nat → T) : catE 0 f g = g := funext fun i => by
 have := catE_at 0 i f g
 rwa [Nat.zero_add] at this
theorem elv_cat (s n : Nat) (F G H : Nat → Nat → Value) (h1 : ∀ i, i < n → H i = F i) (h2 : ∀ i, H (n + i) = G i) : ∀ m, elv s (n + m) H = elv s n F ++ elv s m G
 | 0 => by
  rw [Nat.add_zero, elv_congr (G := F) (fun i hi j _ => by rw [h1 i hi])]
  simp [elv]
 | m + 1 => by rw [← Nat.add_assoc, elv_snoc, elv_cat s n F G H h1 h2 m, elv_snoc, h2, List.append_assoc]
theorem elv_news {w : World} {s m b off : Nat} {F : Nat → Nat → Value} (hc : ∀ i, i < m → ∀ j, j < s → w.cell? ⟨b, off + i * s + j, none⟩ = some (F i j)) : ∀ (j : Nat) (u : Value), (elv s m F)[j]? = some u → w.cell? ((⟨b, off, none⟩ : Addr).add j) = some u := fun j u hj => by
 rw [Go.WideShapes.add_plain]
 unfold elv at hj
 rw [List.getElem?_map, Option.map_eq_some_iff] at hj
 obtain ⟨k, hk, rfl⟩ := hj
 obtain ⟨hj', rfl⟩ := List.getElem?_eq_some_iff.1 hk
 rw [List.getElem_range]
 have hj2 : j < m * s := by simpa using hj'
 have hs : 0 < s := by
  rcases Nat.eq_zero_or_pos s with rfl | q
  ·omega
  ·exact q
 have e := Nat.div_add_mod j s
 have := hc (j / s) (Nat.div_lt_of_lt_mul (by rw [Nat.mul_comm]; exact hj2)) (j % s) (Nat.mod_lt _ hs)
 rw [Nat.mul_comm] at e
 rwa [Nat.add_assoc, e] at this
theorem EO.mono {w : World} {B B' : Nat} {t : TypeId} {s : Nat} {v : Value} {n : Nat} {F : Nat → Nat → Value} (h : EO w B t s v n F) (hb : B' ≤ B) : EO w B' t s v n F := by
 obtain ⟨hl, h0 | ⟨g', cap, cur, hv, hB, hr⟩⟩ := h
 ·exact ⟨hl, .inl h0⟩
 ·exact ⟨hl, .inr ⟨g', cap, cur, hv, Nat.le_trans hb hB, hr⟩⟩
theorem EO.lit (w : World) (B : Nat) (t : TypeId) (s : Nat) (hB : B ≤ w.heap.size) (F : Nat → Nat → Value) : EO (w.alloc (.cells #[] t)) B t s (.slice (some ⟨w.heap.size, 0, none⟩) 0 0) 0 F := by
 unfold EO
 rw [show elv s 0 F = [] by simp [elv]]
 exact World.ownsRow_made w #[] 0 hB (Nat.zero_le _) (by simp)
theorem Els.behind {w : World} {s b off n : Nat} {F : Nat → Nat → Value} (h : Els w s (some ⟨b, off, none⟩) n F) (k : Nat) (hk : k ≤ n) : Els w s (some ⟨b, off + k * s, none⟩) (n - k) (fun i => F (k + i)) := fun i hi => by
 obtain ⟨b', off', e, hc⟩ := h (k + i) (by omega)
 cases e
 exact ⟨b, off + k * s, rfl, fun j hj => by rw [← hc j hj, Nat.add_mul, ← Nat.add_assoc]⟩
end Go.Proofs.YtiamaoihachhgaaGreatDoor
namespace Go.Proofs.YtiamaoihachhgaaGreatDoor
open Go.ChangeShapes Go.WideShapes Go.ChangeAt Go.RowKit
theorem ret_cell {P : Program} {fn : Func} {p : Tmp} {ty : TypeId} {tmps : Array Value} {w : World} {b : Nat} {v : Value} {Post : Ending → World → Prop} (h : fn.results = #[.cell p ty]) (hp : tmps.getD p undef = .pointer (some ⟨b, 0, none⟩)) (hl : (loadVar ty ⟨b, 0, none⟩).run P w = .ok v w) (hq : Post (.returned v) w) : bodyPost P fn Post .ret { tmps := tmps, defers := [] } w :=
 bodyPost_ret (results_cell_one h tmps P w hp hl) rfl hq
theorem ret_cell2 {P : Program} {fn : Func} {p u : Tmp} {ty : TypeId} {tmps : Array Value} {w : World} {b : Nat} {v x : Value} {Post : Ending → World → Prop} (h : fn.results = #[.cell p ty, .tmp u]) (hp : tmps.getD p undef = .pointer (some ⟨b, 0, none⟩)) (hu : tmps.getD u undef = x) (hl : (loadVar ty ⟨b, 0, none⟩).run P w = .ok v w) (hq : Post (.returned (.tuple #[v, x])) w) : bodyPost P fn Post .ret { tmps := tmps, defers := [] } w := by
 refine bodyPost_ret (v := .tuple #[v, x]) ?_ rfl hq
 rw [results_cell_tmp h, hp, hu]
 simp [asAddr, hl, Result.andThen]
end Go.Proofs.YtiamaoihachhgaaGreatDoor
namespace Go.Proofs.YtiamaoihachhgaaGreatDoor
open Go.ChangeShapes Go.WideShapes Go.ChangeAt Go.RowKit
set_option linter.unusedVariables false
structure SlP (a : Option Addr) (n c : Nat) : Prop where
 z : a = none → c = 0
 f : a = none ∨ ∃ g off, a = some ⟨g, off, none⟩
 le : n ≤ c
 mx : c ≤ maxLen
theorem EO.slp {w : World} {B : Nat} {t : TypeId} {s : Nat} {a : Option Addr} {n c : Nat} {F : Nat → Nat → Value} (h : EO w B t s (.slice a n c) n F) : SlP a n c := by
 obtain ⟨hl, ⟨h1, h2⟩ | ⟨g, cap, cur, hv, _, _, hn, hm, _⟩⟩ := h
 ·cases h1; exact ⟨fun _ => rfl, .inl rfl, by omega, by unfold maxLen; omega⟩
 ·cases hv; exact ⟨(fun e => by cases e), .inr ⟨_, _, rfl⟩, hn, hm⟩
def cutA (a : Option Addr) (c k s : Nat) : Option Addr := if c = k then a else a.map (·.add (k * s))
theorem run_cut_to {P : Program} (T : TypeId) (hu : P.underlying T = some (.slice (P.elem T))) (s : Nat) (hs : ∀ w, (sizeOf (P.elem T)).run P w = .ok s w) {a : Option Addr} {n c : Nat} (h : SlP a n c) (k : Nat) (hk : k ≤ c) (w : World) :
  (Instr.slice T (.slice a n c) none (some (.int .i64 (k : Int))) none).run P w = .ok (.slice a k c) w := by
 rw [run_slice_h (P := P) (w := w) T a n c hu .i64 (k : Int) (by omega) (by omega)]
 simp only [hs, Result.andThen, sliced, Int.toNat_natCast, Nat.zero_mul, Nat.sub_zero]
 rcases h.f with rfl | ⟨g, off, rfl⟩
 ·simp
 ·simp [Go.WideShapes.add_plain]
theorem run_cut_from {P : Program} (T : TypeId) (hu : P.underlying T = some (.slice (P.elem T))) (s : Nat) (hs : ∀ w, (sizeOf (P.elem T)).run P w = .ok s w) {a : Option Addr} {n c : Nat} (h : SlP a n c) (k : Nat) (hk : k ≤ n) (w : World) :
  (Instr.slice T (.slice a n c) (some (.int .i64 (k : Int))) none none).run P w = .ok (.slice (cutA a c k s) (n - k) (c - k)) w := by
 rw [run_slice_l (P := P) (w := w) T a n c hu .i64 (k : Int) (by omega) (by omega)]
 simp only [hs, Result.andThen, sliced, Int.toNat_natCast, cutA]
end Go.Proofs.YtiamaoihachhgaaGreatDoor
namespace Go.Proofs.YtiamaoihachhgaaGreatDoor
open Go.ChangeShapes Go.WideShapes Go.ChangeAt Go.RowKit
set_option linter.unusedVariables false
structure Lf where
 v : Int
 h : ByteArray
def lfV (x : Lf) : Nat → Value
 | 0 => .int .i64 x.v
 | _ => .string x.h
def lfF (LF : Nat → Lf) (i j : Nat) : Value := lfV (LF i) j
theorem Tryz.infoLf : (Tryz.prog.info? 97).map (fun i => (i.zero, i.size, i.bytes)) = some (some (.agg #[.int .i64 0, .string ⟨#[]⟩]), 2, 24) := by kernel_rfl
end Go.Proofs.YtiamaoihachhgaaGreatDoor
namespace Go.Proofs.YtiamaoihachhgaaGreatDoor
open Go.ChangeShapes Go.WideShapes Go.ChangeAt Go.RowKit
set_option linter.unusedVariables false
def Lf.Ok (x : Lf) : Prop := (0 ≤ x.v ∧ x.v ≤ 4294967295) ∧ x.h.size = 32
theorem isWord_t (x : Int) (r : Bool) (hr : r = decide (0 ≤ x ∧ x ≤ 4294967295)) (w : World) :
  Calls Tryz.prog 112 #[.int .i64 x] w fun e w' => e = .returned (.bool r) ∧ w = w' := by
 by_cases h1 : 0 ≤ x
 ·by_cases h2 : x ≤ 4294967295
  ·obtain rfl : r = true := by rw [hr]; simp; omega
   clear hr
   go_enter Tryz.func112, Tryz.ntmps112
   go_wp2
   go_ret
   exact ⟨rfl, rfl⟩
  ·obtain rfl : r = false := by rw [hr]; simp; omega
   clear hr
   go_enter Tryz.func112, Tryz.ntmps112
   go_wp2
   go_ret
   exact ⟨rfl, rfl⟩
 ·obtain rfl : r = false := by rw [hr]; simp; omega
  clear hr
  go_enter Tryz.func112, Tryz.ntmps112
  go_wp2
  go_ret
  exact ⟨rfl, rfl⟩
end Go.Proofs.YtiamaoihachhgaaGreatDoor
namespace Go.Proofs.YtiamaoihachhgaaGreatDoor
open Go.ChangeShapes Go.WideShapes Go.ChangeAt Go.RowKit
theorem Tryz.infoStrD : (Tryz.prog.info? 9).map (fun i => (i.zero, i.size, i.bytes)) = some (some (.string ⟨#[]⟩), 1, 16) := by kernel_rfl
theorem mkStrsD (n : Nat) (hn : n ≤ 1048576) (w : World) : (Instr.makeSlice 26 (.int .i64 n) (.int .i64 n)).run Tryz.prog w = .ok (.slice (some ⟨w.heap.size, 0, none⟩) n n) (w.alloc (.cells (madeCells #[.string ⟨#[]⟩] n) 9)) :=
 run_make_row' (P := Tryz.prog) 26 9 (.string ⟨#[]⟩) 16 Tryz.underlying26 Tryz.infoStrD rfl .i64 .i64 n (by omega) (by omega) w
theorem Tryz.infoPen : (Tryz.prog.info? 107).map (fun i => (i.zero, i.size, i.bytes)) = some (some (.agg #[.int .i64 0, .string ⟨#[]⟩]), 2, 24) := by kernel_rfl
def penC (A : Nat → Int) (D : Nat → ByteArray) (k : Nat) : Value := if k % 2 = 0 then .int .i64 (A (k / 2)) else .string (D (k / 2))
theorem penC0 (A : Nat → Int) (D : Nat → ByteArray) (i : Nat) : penC A D (i * 2) = .int .i64 (A i) := by unfold penC; rw [if_pos (by omega), show i * 2 / 2 = i from by omega]
theorem penC1 (A : Nat → Int) (D : Nat → ByteArray) (i : Nat) : penC A D (i * 2 + 1) = .string (D i) := by unfold penC; rw [if_neg (by omega), show (i * 2 + 1) / 2 = i from by omega]
end Go.Proofs.YtiamaoihachhgaaGreatDoor
namespace Go.Proofs.YtiamaoihachhgaaGreatDoor
open Go.ChangeShapes Go.WideShapes Go.ChangeAt Go.RowKit Go.Extern.Stop Go.Stop Go.Extern
end Go.Proofs.YtiamaoihachhgaaGreatDoor
namespace Go.Proofs.YtiamaoihachhgaaGreatDoor
open Go.ChangeShapes Go.WideShapes Go.ChangeAt Go.RowKit
structure RowS (w : World) (a : Option Addr) (g n : Nat) (f : Nat → ByteArray) : Prop where
 a : 0 < n → a = some ⟨g, 0, none⟩
 c : ∀ i, i < n → w.cell? ⟨g, i, none⟩ = some (.string (f i))
 z : ∀ i, i < n → w.frozen? ⟨g, i, none⟩ = false
structure RowP (w : World) (a : Option Addr) (g n : Nat) (A : Nat → Int) (D : Nat → ByteArray) : Prop where
 a : 0 < n → a = some ⟨g, 0, none⟩
 c : ∀ i, i < n → w.cell? ⟨g, i * 2, none⟩ = some (.int .i64 (A i))
 d : ∀ i, i < n → w.cell? ⟨g, i * 2 + 1, none⟩ = some (.string (D i))
 z : ∀ i, i < n * 2 → w.frozen? ⟨g, i, none⟩ = false
theorem cellOf {w w' : World} {g i : Nat} (e : w'.heap[g]? = w.heap[g]?) : w'.cell? ⟨g, i, none⟩ = w.cell? ⟨g, i, none⟩ := by simp [World.cell?, e]
theorem frozenOf {w w' : World} {g i : Nat} (e : w'.heap[g]? = w.heap[g]?) : w'.frozen? ⟨g, i, none⟩ = w.frozen? ⟨g, i, none⟩ := by simp [World.frozen?, e]
theorem RowS.ofBlock {w w' : World} {a : Option Addr} {g n : Nat} {f : Nat → ByteArray} (h : RowS w a g n f) (e : 0 < n → w'.heap[g]? = w.heap[g]?) : RowS w' a g n f :=
 ⟨h.a, fun i hi => by rw [cellOf (e (by omega))]; exact h.c i hi, fun i hi => by rw [frozenOf (e (by omega))]; exact h.z i hi⟩
theorem RowS.lt {w : World} {a : Option Addr} {g n : Nat} {f : Nat → ByteArray} (h : RowS w a g n f) (hn : 0 < n) : g < w.heap.size := strBlock (h.c 0 hn)
theorem RowS.onlyB {w w' : World} {a : Option Addr} {g b n : Nat} {f : Nat → ByteArray} (h : RowS w a g n f) (ho : OnlyB b w w') (hne : 0 < n → g ≠ b) : RowS w' a g n f := h.ofBlock (fun hn => ho.block g (h.lt hn) (hne hn))
theorem RowS.strs {w : World} {a : Option Addr} {g n : Nat} {f : Nat → ByteArray} (h : RowS w a g n f) : Strs w a n f := fun i hi => ⟨g, 0, h.a (by omega), by rw [Nat.zero_add]; exact h.c i hi⟩
theorem RowS.nil (w : World) (a : Option Addr) (g : Nat) (f : Nat → ByteArray) : RowS w a g 0 f := ⟨fun h => absurd h (by omega), fun i hi => absurd hi (by omega), fun i hi => absurd hi (by omega)⟩
theorem RowS.ofRow {w : World} {g m n : Nat} {t : TypeId} {f : Nat → ByteArray} {F : Nat → Value} (h : w.rowIs g t m F) (hn : n ≤ m) (e : ∀ i, i < n → F i = .string (f i)) : RowS w (some ⟨g, 0, none⟩) g n f := ⟨fun _ => rfl, fun i hi => by rw [h.cell (by omega), e i hi], fun i _ => h.frozen i⟩
theorem RowP.ofBlock {w w' : World} {a : Option Addr} {g n : Nat} {A : Nat → Int} {D : Nat → ByteArray} (h : RowP w a g n A D) (e : 0 < n → w'.heap[g]? = w.heap[g]?) : RowP w' a g n A D :=
 ⟨h.a, fun i hi => by rw [cellOf (e (by omega))]; exact h.c i hi, fun i hi => by rw [cellOf (e (by omega))]; exact h.d i hi, fun i hi => by rw [frozenOf (e (by omega))]; exact h.z i hi⟩
theorem RowP.lt {w : World} {a : Option Addr} {g n : Nat} {A : Nat → Int} {D : Nat → ByteArray} (h : RowP w a g n A D) (hn : 0 < n) : g < w.heap.size := strBlock (h.c 0 hn)
theorem RowP.onlyB {w w' : World} {a : Option Addr} {g b n : Nat} {A : Nat → Int} {D : Nat → ByteArray} (h : RowP w a g n A D) (ho : OnlyB b w w') (hne : 0 < n → g ≠ b) : RowP w' a g n A D := h.ofBlock (fun hn => ho.block g (h.lt hn) (hne hn))
theorem RowP.pens {w : World} {a : Option Addr} {g n : Nat} {A : Nat → Int} {D : Nat → ByteArray} (h : RowP w a g n A D) : Pens w a n A D := fun i hi => ⟨g, 0, h.a (by omega), by rw [Nat.zero_add]; exact h.c i hi, by rw [Nat.zero_add]; exact h.d i hi⟩
theorem RowP.nil (w : World) (a : Option Addr) (g : Nat) (A : Nat → Int) (D : Nat → ByteArray) : RowP w a g 0 A D := ⟨fun h => absurd h (by omega), fun i hi => absurd hi (by omega), fun i hi => absurd hi (by omega), fun i hi => absurd hi (by omega)⟩
structure RowD (w : World) (d : Dk) (a0 a1 a2 : Option Addr) (g0 g1 g2 : Nat) : Prop where
 s0 : RowS w a0 g0 d.nb d.B
 s1 : RowP w a1 g1 d.nc d.A d.D
 s2 : RowS w a2 g2 d.ns d.S
 n01 : 0 < d.nb → 0 < d.nc → g0 ≠ g1
 n02 : 0 < d.nb → 0 < d.ns → g0 ≠ g2
 n12 : 0 < d.nc → 0 < d.ns → g1 ≠ g2
theorem RowD.diskV {w : World} {d : Dk} {a0 a1 a2 : Option Addr} {g0 g1 g2 : Nat} (h : RowD w d a0 a1 a2 g0 g1 g2) : DiskV w d a0 a1 a2 := ⟨h.s0.strs, h.s1.pens, h.s2.strs⟩
end Go.Proofs.YtiamaoihachhgaaGreatDoor
namespace Go.Proofs.YtiamaoihachhgaaGreatDoor
open Go.ChangeShapes Go.WideShapes Go.ChangeAt Go.RowKit
def TxR (w : World) (B : Nat) (v : Value) (n : Nat) (f : Nat → ByteArray) : Prop := w.ownsRow B 9 1 v n ((List.range n).map fun i => .string (f i))
def PnR (w : World) (B : Nat) (v : Value) (n : Nat) (A : Nat → Int) (D : Nat → ByteArray) : Prop := w.ownsRow B 107 2 v n ((List.range (n * 2)).map (penC A D))
def rowOf (v : Value) : Nat := match v.ownBlock with | some g => g | none => 0
theorem TxR.form {w : World} {B : Nat} {v : Value} {n : Nat} {f : Nat → ByteArray} (h : TxR w B v n f) : ∃ a c, v = .slice a n c ∧ RowS w a (rowOf v) n f ∧ (0 < n → B ≤ rowOf v) ∧ (v.ownBlock = none → n = 0) ∧ n ≤ c := by
 obtain ⟨hl, ⟨rfl, rfl⟩ | ⟨g, cap, cur, rfl, hB, hh, hn, hm, hs, ht⟩⟩ := h
 ·exact ⟨none, 0, rfl, RowS.nil _ _ _ _, fun h => absurd h (by omega), fun _ => rfl, Nat.le_refl _⟩
 ·refine ⟨some ⟨g, 0, none⟩, cap, rfl, ⟨fun _ => rfl, fun i hi => ?_, fun i hi => ?_⟩, fun _ => hB, fun h => (by cases h), hn⟩
  ·have h1 : (cur.toList.take (n * 1))[i]? = some (.string (f i)) := by rw [ht]; simp [hi]
   rw [List.getElem?_take, if_pos (by omega), Array.getElem?_toList] at h1
   show w.cell? ⟨g, i, none⟩ = _
   simp [World.cell?, hh, h1]
  ·show w.frozen? ⟨g, i, none⟩ = false
   simp [World.frozen?, hh]
theorem PnR.form {w : World} {B : Nat} {v : Value} {n : Nat} {A : Nat → Int} {D : Nat → ByteArray} (h : PnR w B v n A D) : ∃ a c, v = .slice a n c ∧ RowP w a (rowOf v) n A D ∧ (0 < n → B ≤ rowOf v) ∧ (v.ownBlock = none → n = 0) ∧ n ≤ c := by
 obtain ⟨hl, ⟨rfl, rfl⟩ | ⟨g, cap, cur, rfl, hB, hh, hn, hm, hs, ht⟩⟩ := h
 ·exact ⟨none, 0, rfl, RowP.nil _ _ _ _ _, fun h => absurd h (by omega), fun _ => rfl, Nat.le_refl _⟩
 ·have each : ∀ i, i < n * 2 → w.cell? ⟨g, i, none⟩ = some (penC A D i) := fun i hi => by
   have h1 : (cur.toList.take (n * 2))[i]? = some (penC A D i) := by rw [ht]; simp [hi]
   rw [List.getElem?_take, if_pos (by omega), Array.getElem?_toList] at h1
   simp [World.cell?, hh, h1]
  refine ⟨some ⟨g, 0, none⟩, cap, rfl, ⟨fun _ => rfl, fun i hi => ?_, fun i hi => ?_, fun i hi => ?_⟩, fun _ => hB, fun h => (by cases h), hn⟩
  ·exact (each (i * 2) (by omega)).trans (by rw [penC0])
  ·exact (each (i * 2 + 1) (by omega)).trans (by rw [penC1])
  ·show w.frozen? ⟨g, i, none⟩ = false
   simp [World.frozen?, hh]
theorem ownsRow_block {w w' : World} {B : Nat} {e : TypeId} {size : Nat} {v : Value} {n : Nat} {xs : List Value} (h : w.ownsRow B e size v n xs) (hk : ∀ g, v.ownBlock = some g → w'.heap[g]? = w.heap[g]?) : w'.ownsRow B e size v n xs := by
 obtain ⟨hl, h0 | ⟨g, cap, cur, rfl, hB, hh, hr⟩⟩ := h
 ·exact ⟨hl, .inl h0⟩
 ·exact ⟨hl, .inr ⟨g, cap, cur, rfl, hB, (hk g rfl).trans hh, hr⟩⟩
theorem ownsRow_belowD {w w' : World} {B : Nat} {e : TypeId} {size : Nat} {v : Value} {n : Nat} {xs : List Value} (h : w.ownsRow B e size v n xs) (hb : Below w.heap.size w w') : w'.ownsRow B e size v n xs := ownsRow_block h (fun g hg => hb.block g (h.lt g hg).2)
theorem ownsRow_onlyB {w w' : World} {B b : Nat} {e : TypeId} {size : Nat} {v : Value} {n : Nat} {xs : List Value} (h : w.ownsRow B e size v n xs) (ho : OnlyB b w w') (hne : v.ownBlock ≠ some b) : w'.ownsRow B e size v n xs := ownsRow_block h (fun g hg => ho.block g (h.lt g hg).2 (fun e => hne (e ▸ hg)))
theorem TxR.below {w w' : World} {B : Nat} {v : Value} {n : Nat} {f : Nat → ByteArray} (h : TxR w B v n f) (hb : Below w.heap.size w w') : TxR w' B v n f := ownsRow_belowD h hb
theorem PnR.below {w w' : World} {B : Nat} {v : Value} {n : Nat} {A : Nat → Int} {D : Nat → ByteArray} (h : PnR w B v n A D) (hb : Below w.heap.size w w') : PnR w' B v n A D := ownsRow_belowD h hb
theorem TxR.onlyB {w w' : World} {B b : Nat} {v : Value} {n : Nat} {f : Nat → ByteArray} (h : TxR w B v n f) (ho : OnlyB b w w') (hne : v.ownBlock ≠ some b) : TxR w' B v n f := ownsRow_onlyB h ho hne
theorem PnR.onlyB {w w' : World} {B b : Nat} {v : Value} {n : Nat} {A : Nat → Int} {D : Nat → ByteArray} (h : PnR w B v n A D) (ho : OnlyB b w w') (hne : v.ownBlock ≠ some b) : PnR w' B v n A D := ownsRow_onlyB h ho hne
theorem TxR.nil (w : World) (B : Nat) (f : Nat → ByteArray) : TxR w B (.slice none 0 0) 0 f := World.ownsRow_nil w B _ _
theorem PnR.nil (w : World) (B : Nat) (A : Nat → Int) (D : Nat → ByteArray) : PnR w B (.slice none 0 0) 0 A D := World.ownsRow_nil w B _ _
theorem TxR.lit (w : World) (B : Nat) (hB : B ≤ w.heap.size) (f : Nat → ByteArray) : TxR (w.alloc (.cells #[] 9)) B (.slice (some ⟨w.heap.size, 0, none⟩) 0 0) 0 f := World.ownsRow_made w #[] 0 hB (Nat.zero_le _) rfl
theorem PnR.lit (w : World) (B : Nat) (hB : B ≤ w.heap.size) (A : Nat → Int) (D : Nat → ByteArray) : PnR (w.alloc (.cells #[] 107)) B (.slice (some ⟨w.heap.size, 0, none⟩) 0 0) 0 A D := World.ownsRow_made w #[] 0 hB (Nat.zero_le _) rfl
def catT (n : Nat) (f g : Nat → ByteArray) (i : Nat) : ByteArray := if i < n then f i else g (i - n)
def catI (n : Nat) (f g : Nat → Int) (i : Nat) : Int := if i < n then f i else g (i - n)
set_option maxRecDepth 100000 in
theorem appTx (w : World) (B : Nat) (v : Value) (n : Nat) (f : Nat → ByteArray) (a : Option Addr) (m c : Nat) (g : Nat → ByteArray) (ty : TypeId) (hB : B ≤ w.heap.size) (hn : n + m ≤ 1048576) (h : TxR w B v n f) (hs : Strs w a m g) (ha : a = none → c = 0) :
  ∃ v' w', (Builtin.append_ #[26, 26] ty #[v, .slice a m c]).run Tryz.prog w = .ok v' w' ∧ TxR w' B v' (n + m) (catT n f g) ∧ w.grownBy w' v.ownBlock ∧ (v'.ownBlock = v.ownBlock ∨ v'.ownBlock = some w.heap.size) := by
 obtain ⟨i, hi, hz, hsz, hby⟩ := info_parts Tryz.infoStrD
 have hcat : (List.range (n + m)).map (fun i => Value.string (catT n f g i)) = (List.range n).map (fun i => .string (f i)) ++ (List.range m).map (fun i => .string (g i)) := by
  rw [List.range_add, List.map_append, List.map_map]
  congr 1
  ·exact List.map_congr_left (fun j hj => by unfold catT; rw [if_pos (List.mem_range.1 hj)])
  ·exact List.map_congr_left (fun j _ => by show Value.string (catT n f g (n + j)) = _; unfold catT; rw [if_neg (by omega), Nat.add_sub_cancel_left])
 by_cases h0 : m = 0
 ·subst h0
  have hcong : TxR w B v (n + 0) (catT n f g) := by
   unfold TxR
   rw [hcat]
   simpa [TxR] using h
  cases a with
  | none =>
   obtain rfl := ha rfl
   exact ⟨v, w, run_append_owned_none w B 26 ty 9 i 1 Tryz.underlying26 hi v n _ h, hcong, ⟨rfl, rfl, rfl, Nat.le_refl _, fun _ _ _ => rfl⟩, .inl rfl⟩
  | some ad =>
   obtain ⟨v', w', hr, ho, hg, _, hloc⟩ := run_append_own_at (P := Tryz.prog) w B 26 ty 9 i (.string ⟨#[]⟩) 1 16 Tryz.underlying26 hi hz hsz hby rfl (by decide) v n _ h ad 0 c [] rfl (fun j u hj => by simp at hj) (fun u hu => by simp at hu) (by unfold maxLen; omega) (by omega) hB
   exact ⟨v', w', hr, by unfold TxR; rw [hcat]; simpa using ho, hg, hloc⟩
 ·obtain ⟨b, off, rfl, hc⟩ := hs.opened (by omega)
  obtain ⟨v', w', hr, ho, hg, _, hloc⟩ := run_append_own_at (P := Tryz.prog) w B 26 ty 9 i (.string ⟨#[]⟩) 1 16 Tryz.underlying26 hi hz hsz hby rfl (by decide) v n _ h ⟨b, off, none⟩ m c ((List.range m).map fun i => .string (g i)) (by simp) (fun j u hj => by
   have hjm : j < m := by have := (List.getElem?_eq_some_iff.1 hj).1; simpa using this
   rw [show ((⟨b, off, none⟩ : Addr).add j) = ⟨b, off + j, none⟩ from Go.WideShapes.add_plain _ _ _, hc j hjm]
   simpa [hjm] using hj) (fun u hu => by obtain ⟨j, _, rfl⟩ := List.mem_map.1 hu; rfl) (by unfold maxLen; omega) (by omega) hB
  exact ⟨v', w', hr, by unfold TxR; rw [hcat]; exact ho, hg, hloc⟩
theorem penC_cat (n : Nat) (A A' : Nat → Int) (D D' : Nat → ByteArray) (m : Nat) : (List.range ((n + m) * 2)).map (penC (catI n A A') (catT n D D')) = (List.range (n * 2)).map (penC A D) ++ (List.range (m * 2)).map (penC A' D') := by
 rw [Nat.add_mul, List.range_add, List.map_append, List.map_map]
 congr 1
 ·exact List.map_congr_left (fun j hj => by
   have := List.mem_range.1 hj
   unfold penC catI catT
   rw [if_pos (show j / 2 < n by omega), if_pos (show j / 2 < n by omega)])
 ·exact List.map_congr_left (fun j _ => by
   show penC _ _ (n * 2 + j) = _
   unfold penC catI catT
   rw [if_neg (show ¬ (n * 2 + j) / 2 < n by omega), if_neg (show ¬ (n * 2 + j) / 2 < n by omega), show (n * 2 + j) / 2 - n = j / 2 from by omega, show (n * 2 + j) % 2 = j % 2 from by omega])
set_option maxRecDepth 100000 in
theorem appPn (w : World) (B : Nat) (v : Value) (n : Nat) (A : Nat → Int) (D : Nat → ByteArray) (a : Option Addr) (m c : Nat) (A' : Nat → Int) (D' : Nat → ByteArray) (ty : TypeId) (hB : B ≤ w.heap.size) (hn : n + m ≤ 1048576) (h : PnR w B v n A D) (hs : Pens w a m A' D') (ha : a = none → c = 0) :
  ∃ v' w', (Builtin.append_ #[27, 27] ty #[v, .slice a m c]).run Tryz.prog w = .ok v' w' ∧ PnR w' B v' (n + m) (catI n A A') (catT n D D') ∧ w.grownBy w' v.ownBlock ∧ (v'.ownBlock = v.ownBlock ∨ v'.ownBlock = some w.heap.size) := by
 obtain ⟨i, hi, hz, hsz, hby⟩ := info_parts Tryz.infoPen
 by_cases h0 : m = 0
 ·subst h0
  have hcong : PnR w B v (n + 0) (catI n A A') (catT n D D') := by
   unfold PnR
   rw [penC_cat]
   simpa [PnR] using h
  cases a with
  | none =>
   obtain rfl := ha rfl
   exact ⟨v, w, run_append_owned_none w B 27 ty 107 i 2 Tryz.underlying27 hi v n _ h, hcong, ⟨rfl, rfl, rfl, Nat.le_refl _, fun _ _ _ => rfl⟩, .inl rfl⟩
  | some ad =>
   obtain ⟨v', w', hr, ho, hg, _, hloc⟩ := run_append_own_at (P := Tryz.prog) w B 27 ty 107 i _ 2 24 Tryz.underlying27 hi hz hsz hby rfl (by decide) v n _ h ad 0 c [] rfl (fun j u hj => by simp at hj) (fun u hu => by simp at hu) (by unfold maxLen; omega) (by omega) hB
   exact ⟨v', w', hr, by unfold PnR; rw [penC_cat]; simpa using ho, hg, hloc⟩
 ·obtain ⟨b, off, rfl, hc⟩ := hs.opened (by omega)
  obtain ⟨v', w', hr, ho, hg, _, hloc⟩ := run_append_own_at (P := Tryz.prog) w B 27 ty 107 i _ 2 24 Tryz.underlying27 hi hz hsz hby rfl (by decide) v n _ h ⟨b, off, none⟩ m c ((List.range (m * 2)).map (penC A' D')) (by simp) (fun j u hj => by
   have hjm : j < m * 2 := by have := (List.getElem?_eq_some_iff.1 hj).1; simpa using this
   have hu : u = penC A' D' j := by simpa [hjm] using hj.symm
   rw [show ((⟨b, off, none⟩ : Addr).add j) = ⟨b, off + j, none⟩ from Go.WideShapes.add_plain _ _ _, hu]
   obtain ⟨h1, h2⟩ := hc (j / 2) (by omega)
   rcases (show j % 2 = 0 ∨ j % 2 = 1 by omega) with e | e
   ·rw [show off + j = off + j / 2 * 2 from by omega, h1]; unfold penC; rw [if_pos e]
   ·rw [show off + j = off + j / 2 * 2 + 1 from by omega, h2]; unfold penC; rw [if_neg (by omega)]) (fun u hu => by
   obtain ⟨j, _, rfl⟩ := List.mem_map.1 hu
   unfold penC
   split <;> rfl) (by unfold maxLen; omega) (by omega) hB
  exact ⟨v', w', hr, by unfold PnR; rw [penC_cat]; exact ho, hg, hloc⟩
theorem TxR.congr {w : World} {B : Nat} {v : Value} {n : Nat} {f f' : Nat → ByteArray} (h : TxR w B v n f) (e : ∀ i, i < n → f i = f' i) : TxR w B v n f' := by
 unfold TxR at *
 rwa [List.map_congr_left (fun i hi => by rw [← e i (List.mem_range.1 hi)])]
theorem PnR.congr {w : World} {B : Nat} {v : Value} {n : Nat} {A A' : Nat → Int} {D D' : Nat → ByteArray} (h : PnR w B v n A D) (e : ∀ i, i < n → A i = A' i ∧ D i = D' i) : PnR w B v n A' D' := by
 unfold PnR at *
 rwa [List.map_congr_left (fun i hi => by
  unfold penC
  obtain ⟨h1, h2⟩ := e (i / 2) (by have := List.mem_range.1 hi; omega)
  rw [← h1, ← h2])]
end Go.Proofs.YtiamaoihachhgaaGreatDoor
namespace Go.Proofs.YtiamaoihachhgaaGreatDoor
open Go.ChangeShapes Go.WideShapes Go.ChangeAt Go.RowKit
def newD (n : Nat) : Dk := ⟨n, fun _ => ⟨#[]⟩, 0, fun _ => 0, fun _ => ⟨#[]⟩, 0, fun _ => ⟨#[]⟩⟩
def RetD (B : Nat) (w' : World) (e : Ending) (d : Dk) (code : Int) : Prop := ∃ (a0 a1 a2 : Option Addr) (c0 c1 c2 g0 g1 g2 : Nat), e = .returned (.tuple #[.agg #[.slice a0 d.nb c0, .slice a1 d.nc c1, .slice a2 d.ns c2], .int .i64 code]) ∧ RowD w' d a0 a1 a2 g0 g1 g2 ∧ (0 < d.nb → B ≤ g0) ∧ (0 < d.nc → B ≤ g1) ∧ (0 < d.ns → B ≤ g2)
theorem RowD.empty (w : World) (a0 a1 a2 : Option Addr) : RowD w (newD 0) a0 a1 a2 0 0 0 := ⟨RowS.nil _ _ _ _, RowP.nil _ _ _ _ _, RowS.nil _ _ _ _, fun h => absurd h (by decide), fun h => absurd h (by decide), fun h => absurd h (by decide)⟩
theorem RowD.newD {w : World} {g n m : Nat} {t : TypeId} {F : Nat → Value} (h : w.rowIs g t m F) (hn : n ≤ m) (e : ∀ i, i < n → F i = .string ⟨#[]⟩) (a1 a2 : Option Addr) : RowD w (newD n) (some ⟨g, 0, none⟩) a1 a2 g 0 0 := ⟨RowS.ofRow h hn e, RowP.nil _ _ _ _ _, RowS.nil _ _ _ _, fun _ h => absurd h (Nat.lt_irrefl 0), fun _ h => absurd h (Nat.lt_irrefl 0), fun h => absurd h (Nat.lt_irrefl 0)⟩
set_option maxRecDepth 100000 in
set_option maxHeartbeats 1000000 in
theorem implNew_any (x : Int) (d : Dk) (code : Int) (h : (1 ≤ x ∧ x ≤ 64 ∧ d = newD x.toNat ∧ code = 0) ∨ (¬ (1 ≤ x ∧ x ≤ 64) ∧ d = newD 0 ∧ code = 4)) (w : World) :
  Calls Tryz.prog 13 #[.int .i64 x] w fun e w' => RetD w.heap.size w' e d code ∧ Below w.heap.size w w' := by
 rcases h with ⟨x0, x1, rfl, rfl⟩ | ⟨hx, rfl, rfl⟩
 ·obtain ⟨n, rfl⟩ := Int.eq_ofNat_of_zero_le (a := x) (by omega)
  rw [Int.toNat_natCast]
  have y0 : ¬ (n : Int) < 1 := by omega
  have y1 : ¬ (64 : Int) < (n : Int) := by omega
  have hmk := mkStrsD n (by omega)
  clear x0 x1
  go_enter Tryz.func13, Tryz.ntmps13
  go_wp2
  have RR : (((w.alloc (.cells #[.slice (some ⟨w.heap.size + 1, 0, none⟩) n n, .slice none 0 0, .slice none 0 0] 29)).alloc (.cells (madeCells #[.string ⟨#[]⟩] n) 9))).rowIs (w.heap.size + 1) 9 n (fun _ => .string ⟨#[]⟩) := by
   have := World.rowIs_made (w.alloc (.cells #[.slice (some ⟨w.heap.size + 1, 0, none⟩) n n, .slice none 0 0, .slice none 0 0] 29)) (.string ⟨#[]⟩) n 9
   simpa using this
  exact ret_cell2 (b := w.heap.size) (v := .agg #[.slice (some ⟨w.heap.size + 1, 0, none⟩) n n, .slice none 0 0, .slice none 0 0]) Tryz.results13 rfl rfl (by go_simp) ⟨⟨_, _, _, _, _, _, _, _, _, rfl, RowD.newD RR (Nat.le_refl _) (fun _ _ => rfl) none none, fun _ => by omega, fun h => absurd h (Nat.lt_irrefl 0), fun h => absurd h (Nat.lt_irrefl 0)⟩, ((Below.refl w.heap.size w).alloc (Nat.le_refl _) _).alloc (by simp) _⟩
 ·by_cases y0 : x < 1
  ·go_enter Tryz.func13, Tryz.ntmps13
   go_wp2
   exact ret_cell2 (b := w.heap.size) (v := .agg #[.slice none 0 0, .slice none 0 0, .slice none 0 0]) Tryz.results13 rfl rfl (by go_simp) ⟨⟨_, _, _, _, _, _, _, _, _, rfl, RowD.empty _ none none none, fun h => absurd h (Nat.lt_irrefl 0), fun h => absurd h (Nat.lt_irrefl 0), fun h => absurd h (Nat.lt_irrefl 0)⟩, (Below.refl w.heap.size w).alloc (Nat.le_refl _) _⟩
  ·have y1 : (64 : Int) < x := by omega
   clear hx
   go_enter Tryz.func13, Tryz.ntmps13
   go_wp2
   exact ret_cell2 (b := w.heap.size) (v := .agg #[.slice none 0 0, .slice none 0 0, .slice none 0 0]) Tryz.results13 rfl rfl (by go_simp) ⟨⟨_, _, _, _, _, _, _, _, _, rfl, RowD.empty _ none none none, fun h => absurd h (Nat.lt_irrefl 0), fun h => absurd h (Nat.lt_irrefl 0), fun h => absurd h (Nat.lt_irrefl 0)⟩, (Below.refl w.heap.size w).alloc (Nat.le_refl _) _⟩
end Go.Proofs.YtiamaoihachhgaaGreatDoor
namespace Go.Proofs.YtiamaoihachhgaaGreatDoor
open Go.ChangeShapes Go.WideShapes Go.ChangeAt Go.RowKit
set_option linter.unusedVariables false
set_option maxRecDepth 100000 in
theorem filesOk_none (w : World) : Calls Tryz.prog 57 #[.slice none 0 0] w fun e w' => e = .returned (.bool true) ∧ w = w' := by
 go_enter Tryz.func57, Tryz.ntmps57
 go_wp2
 go_loopw [10] (fun i wr => i = .int .i64 0 ∧ w = wr) (fun i _ => 0)
 case atStart => exact ⟨rfl, rfl⟩
 case round =>
  obtain ⟨rfl, rfl⟩ := hrel
  go_wp2
  go_ret
  exact ⟨rfl, rfl⟩
set_option maxRecDepth 100000 in
theorem containsF_none (f : Value) (w : World) : Calls Tryz.prog 55 #[.slice none 0 0, f] w fun e w' => e = .returned (.bool false) ∧ w = w' := by
 have C1 : Calls Tryz.prog 88 #[.slice none 0 0, f] w fun e w' => e = .returned (.int .i64 (-1)) ∧ w = w' := by
  go_enter Tryz.func88, Tryz.ntmps88
  go_wp2
  go_loopw [8] (fun i wr => i = .int .i64 0 ∧ w = wr) (fun i _ => 0)
  case atStart => exact ⟨rfl, rfl⟩
  case round =>
   obtain ⟨rfl, rfl⟩ := hrel
   go_wp2
   go_ret
   exact ⟨rfl, rfl⟩
 go_enter Tryz.func55, Tryz.ntmps55
 go_wp2_with fail
 refine C1.mono ?_
 rintro e _ ⟨rfl, rfl⟩
 go_wp2
 go_ret
 exact ⟨rfl, rfl⟩
set_option maxRecDepth 100000 in
theorem filesFault_none (w : World) : Calls Tryz.prog 30 #[.slice none 0 0, .slice none 0 0] w fun e w' => e = .returned (.int .i64 0) ∧ w = w' := by
 have C1 := fun f => containsF_none f w
 have C2 := filesOk_none w
 go_enter Tryz.func30, Tryz.ntmps30
 go_wp2_with fail
 refine (C1 _).mono ?_
 rintro e _ ⟨rfl, rfl⟩
 go_wp2_with fail
 refine C2.mono ?_
 rintro e _ ⟨rfl, rfl⟩
 go_wp2
 go_loopw [19] (fun i wr => i = .int .i64 0 ∧ w = wr) (fun i _ => 0)
 case atStart => exact ⟨rfl, rfl⟩
 case round =>
  obtain ⟨rfl, rfl⟩ := hrel
  go_wp2
  go_ret
  exact ⟨rfl, rfl⟩
set_option maxRecDepth 100000 in
theorem filesBytes_none (w : World) : Calls Tryz.prog 15 #[.slice none 0 0] w fun e w' => e = .returned (.tuple #[.slice (some ⟨w.heap.size, 0, none⟩) 1 1, .int .i64 0]) ∧ w' = w.alloc (.cells #[.int .u8 0] 5) := by
 have C1 := filesFault_none w
 go_enter Tryz.func15, Tryz.ntmps15
 go_wp2_with fail
 refine C1.mono ?_
 rintro e _ ⟨rfl, rfl⟩
 clear C1
 go_wp2
 go_loopw [5, 19] (fun s i wr => s = .slice (some ⟨w.heap.size, 0, none⟩) 1 1 ∧ i = .int .i64 0 ∧ wr = w.alloc (.cells #[.int .u8 0] 5)) (fun _ _ _ => 0)
 case atStart => exact ⟨rfl, rfl, rfl⟩
 case round =>
  obtain ⟨rfl, rfl, rfl⟩ := hrel
  go_wp2
  exact bodyPost_ret (results_tmp2 Tryz.results15 _ _ _) rfl ⟨rfl, rfl⟩
set_option maxRecDepth 100000 in
theorem l11Bytes_none (a : Option Addr) (c : Nat) (w : World) : Calls Tryz.prog 20 #[.slice a 0 c] w fun e w' => e = .returned (.slice (some ⟨w.heap.size, 0, none⟩) 1 1) ∧ w' = w.alloc (.cells #[.int .u8 0] 5) := by
 go_enter Tryz.func20, Tryz.ntmps20
 go_wp2
 go_loopw [3, 4] (fun s i wr => s = .slice (some ⟨w.heap.size, 0, none⟩) 1 1 ∧ i = .int .i64 0 ∧ wr = w.alloc (.cells #[.int .u8 0] 5)) (fun _ _ _ => 0)
 case atStart => exact ⟨rfl, rfl, rfl⟩
 case round =>
  obtain ⟨rfl, rfl, rfl⟩ := hrel
  go_wp2
  go_ret
  exact ⟨rfl, rfl⟩
end Go.Proofs.YtiamaoihachhgaaGreatDoor
