/-
  Texts of the proof, joined: StrS, DiskDefs, OpenDisk, ShaMath, At, Arr, Bytes.
-/
import Derived.Test.YtbecnaabmlkjjabGreatDoorRows
import Derived.WalkKit
import Derived.ProofKit
import Derived.Below
import Derived.WalkSmall
import Derived.IntWalk
import Derived.Laws.BytesArg
import Derived.Laws.Concat
import Derived.Deep.OwnRows
import Derived.Deep.RegionHeld3
import Derived.Deep.QuietTactic
import Derived.BigQuiet
import Derived.LaidMore
import Derived.OpenShut
import Derived.ShutString
import Derived.ChangeOld
import Derived.Carry
import Derived.OpenVars
import Derived.Stop.Joined
import Derived.Stop.LaidTwo
import Derived.SevenTiedAt
import Derived.SliceStrings
import Derived.Deep.SlicePairs
import Derived.Deep.Strs
import Derived.Deep.MidRow
import Derived.Deep.WholeRow
namespace Go.Proofs.YtbecnaabmlkjjabGreatDoor
open Go.ChangeShapes Go.WideShapes Go.ChangeAt Go.RowKit
/-- n texts behind a slice's address. -/
def Strs (w : World) (a : Option Addr) (n : Nat) (f : Nat → ByteArray) : Prop := ∀ i, i < n → ∃ b off, a = some ⟨b, off, none⟩ ∧ w.cell? ⟨b, off + i, none⟩ = some (.string (f i))
theorem strBlock {w : World} {p : Addr} {v : Value} (h : w.cell? p = some v) : p.block < w.heap.size := by
  rcases Nat.lt_or_ge p.block w.heap.size with g | g
  · exact g
  · simp [World.cell?, Array.getElem?_eq_none g] at h
theorem Strs.opened {w : World} {a : Option Addr} {n : Nat} {f : Nat → ByteArray} (h : Strs w a n f) (hn : 0 < n) :
    ∃ b off, a = some ⟨b, off, none⟩ ∧ ∀ i, i < n → w.cell? ⟨b, off + i, none⟩ = some (.string (f i)) := by
  obtain ⟨b, off, rfl, _⟩ := h 0 hn
  refine ⟨b, off, rfl, fun i hi => ?_⟩
  obtain ⟨b', off', hab, hc⟩ := h i hi
  cases hab
  exact hc
theorem Strs.below {w w' : World} {a : Option Addr} {n : Nat} {f : Nat → ByteArray} (h : Strs w a n f) (hb : Below w.heap.size w w') : Strs w' a n f := fun i hi => by
  obtain ⟨b, off, ha, hc⟩ := h i hi
  exact ⟨b, off, ha, by rw [hb.cell (strBlock hc)]; exact hc⟩
theorem Strs.drewN {w : World} {a : Option Addr} {n : Nat} {f : Nat → ByteArray} (h : Strs w a n f) (q : Nat) : Strs (w.drewN q) a n f := fun i hi => by
  obtain ⟨b, off, ha, hc⟩ := h i hi
  exact ⟨b, off, ha, by rw [World.cell?_drewN]; exact hc⟩
theorem Strs.ofRow {w : World} {b : Nat} {t : TypeId} {n : Nat} {f : Nat → ByteArray} (h : w.rowIs b t n (fun i => .string (f i))) : Strs w (some ⟨b, 0, none⟩) n f := fun i hi => ⟨b, 0, rfl, by rw [Nat.zero_add]; exact h.cell hi⟩
set_option maxRecDepth 100000 in
set_option maxHeartbeats 1000000 in
/-- laws.eqStringS of two slices that read alike. -/
theorem eqStringS_yes (a b : Option Addr) (n c d : Nat) (f g : Nat → ByteArray) (w : World) (h : Strs w a n f) (h' : Strs w b n g) (he : ∀ i, i < n → f i = g i) (hn : n ≤ 1048576) :
    Calls Tryz.prog 29 #[.slice a n c, .slice b n d] w fun e w' => e = .returned (.bool true) ∧ ∃ q, w' = w.drewN q := by
  rcases Nat.eq_zero_or_pos n with rfl | hpos
  · go_enter Tryz.func29, Tryz.ntmps29
    go_wp2
    go_loopw [5] (fun i wr => i = .int .i64 0 ∧ wr = w) (fun _ _ => 0)
    case atStart => exact ⟨rfl, rfl⟩
    case round =>
      obtain ⟨rfl, rfl⟩ := hrel
      go_wp2
      go_ret
      exact ⟨rfl, 0, rfl⟩
  · obtain ⟨b1, o1, rfl, hc⟩ := h.opened hpos
    obtain ⟨b2, o2, rfl, hc'⟩ := h'.opened hpos
    have HC : Hid (∀ i, i < n → w.cell? ⟨b1, o1 + i, none⟩ = some (.string (f i))) := hc
    have HD : Hid (∀ i, i < n → w.cell? ⟨b2, o2 + i, none⟩ = some (.string (f i))) := fun i hi => by rw [he i hi]; exact hc' i hi
    clear h h' hc hc' he
    have hne : ((n : Int) != (n : Int)) = false := by simp
    go_enter Tryz.func29, Tryz.ntmps29
    go_wp2
    go_loopw [5] (fun i wr => ∃ k : Nat, k ≤ n ∧ i = .int .i64 k ∧ ∃ q, wr = w.drewN q) (fun i _ => n - (intOf i).toNat)
    case atStart => exact ⟨0, by omega, rfl, 0, rfl⟩
    case round =>
      obtain ⟨k, hk, rfl, q, rfl⟩ := hrel
      by_cases hlt : k < n
      · have c1 := HC.out k hlt
        have c2 := HD.out k hlt
        have hlt' : (k : Int) < (n : Int) := by omega
        generalize f k = V at *
        go_wp2
        go_quiet (fail)
        go_wp2
        go_roundw
        case rel => exact ⟨k + 1, by omega, by go_num, _, by first | rfl | rw [World.drewN_drewN]⟩
        case measure => simp [intOf]; omega
      · go_wp2
        go_ret
        exact ⟨rfl, q, rfl⟩
/-- From w to w' only block b and new blocks have changed. -/
structure OnlyB (b : Nat) (w w' : World) : Prop where
  os : w'.os = w.os
  tape : w'.tape = w.tape
  output : w'.output = w.output
  size : w.heap.size ≤ w'.heap.size
  block : ∀ k, k < w.heap.size → k ≠ b → w'.heap[k]? = w.heap[k]?
theorem OnlyB.refl (b : Nat) (w : World) : OnlyB b w w := ⟨rfl, rfl, rfl, Nat.le_refl _, fun _ _ _ => rfl⟩
theorem OnlyB.below {b : Nat} {w w' w'' : World} (h : OnlyB b w w') (hb : Below w'.heap.size w' w'') : OnlyB b w w'' :=
  ⟨hb.os.trans h.os, hb.tape.trans h.tape, hb.output.trans h.output, Nat.le_trans h.size hb.size, fun k hk hn => (hb.block k (Nat.lt_of_lt_of_le hk h.size)).trans (h.block k hk hn)⟩
theorem OnlyB.setCell {b : Nat} {w w' : World} (h : OnlyB b w w') (i : Nat) (v : Value) : OnlyB b w (w'.setCell ⟨b, i, none⟩ v) :=
  ⟨h.os, h.tape, h.output, by simpa using h.size, fun k hk hn => (Below.heap_setCell w' ⟨b, i, none⟩ v k hn).trans (h.block k hk hn)⟩
theorem OnlyB.toBelow {b B : Nat} {w w' : World} (h : OnlyB b w w') (hB : B ≤ b) (hw : B ≤ w.heap.size) : Below B w w' :=
  ⟨h.os, h.tape, h.output, h.size, fun k hk => h.block k (by omega) (by omega)⟩
end Go.Proofs.YtbecnaabmlkjjabGreatDoor
namespace Go.Proofs.YtbecnaabmlkjjabGreatDoor
open Go.ChangeShapes Go.WideShapes Go.ChangeAt Go.RowKit
/-- n writes behind a slice's address. -/
def Pens (w : World) (a : Option Addr) (n : Nat) (A : Nat → Int) (D : Nat → ByteArray) : Prop := ∀ i, i < n → ∃ b off, a = some ⟨b, off, none⟩ ∧ w.cell? ⟨b, off + i * 2, none⟩ = some (.int .i64 (A i)) ∧ w.cell? ⟨b, off + i * 2 + 1, none⟩ = some (.string (D i))
theorem Pens.opened {w : World} {a : Option Addr} {n : Nat} {A : Nat → Int} {D : Nat → ByteArray} (h : Pens w a n A D) (hn : 0 < n) :
    ∃ b off, a = some ⟨b, off, none⟩ ∧ ∀ i, i < n → w.cell? ⟨b, off + i * 2, none⟩ = some (.int .i64 (A i)) ∧ w.cell? ⟨b, off + i * 2 + 1, none⟩ = some (.string (D i)) := by
  obtain ⟨b, off, rfl, _⟩ := h 0 hn
  refine ⟨b, off, rfl, fun i hi => ?_⟩
  obtain ⟨b', off', hab, hc⟩ := h i hi
  cases hab
  exact hc
theorem Pens.below {w w' : World} {a : Option Addr} {n : Nat} {A : Nat → Int} {D : Nat → ByteArray} (h : Pens w a n A D) (hb : Below w.heap.size w w') : Pens w' a n A D := fun i hi => by
  obtain ⟨b, off, ha, hc, hd⟩ := h i hi
  exact ⟨b, off, ha, by rw [hb.cell (strBlock hc)]; exact hc, by rw [hb.cell (strBlock hd)]; exact hd⟩
theorem Pens.drewN {w : World} {a : Option Addr} {n : Nat} {A : Nat → Int} {D : Nat → ByteArray} (h : Pens w a n A D) (q : Nat) : Pens (w.drewN q) a n A D := fun i hi => by
  obtain ⟨b, off, ha, hc, hd⟩ := h i hi
  exact ⟨b, off, ha, by rw [World.cell?_drewN]; exact hc, by rw [World.cell?_drewN]; exact hd⟩
/-- What a disk holds. -/
structure Dk where
  nb : Nat
  B : Nat → ByteArray
  nc : Nat
  A : Nat → Int
  D : Nat → ByteArray
  ns : Nat
  S : Nat → ByteArray
/-- A disk is right. -/
structure Dk.Ok (d : Dk) : Prop where
  nb1 : 1 ≤ d.nb
  nb2 : d.nb ≤ 64
  nc : d.nc ≤ 4096
  ns : d.ns = 0 ∨ d.ns = d.nb
  B : ∀ i, i < d.nb → (d.B i).size ≤ 200
  C : ∀ i, i < d.nc → (0 ≤ d.A i ∧ d.A i < d.nb) ∧ (d.D i).size ≤ 200
  S : ∀ i, i < d.ns → (d.S i).size ≤ 200
open Classical in
noncomputable def Dk.ok (d : Dk) : Bool := decide d.Ok
theorem Dk.ok_true {d : Dk} (h : d.Ok) : d.ok = true := by unfold Dk.ok; simp [h]
theorem Dk.ok_false {d : Dk} (h : ¬ d.Ok) : d.ok = false := by unfold Dk.ok; simp [h]
/-- What a block reads as: the last of the first k writes to it, or what stood there. -/
def rdF (A : Nat → Int) (D : Nat → ByteArray) (b : ByteArray) (x : Int) : Nat → ByteArray
  | 0 => b
  | k + 1 => if A k = x then D k else rdF A D b x k
def Dk.rd (d : Dk) (x : Nat) : ByteArray := rdF d.A d.D (d.B x) (x : Int) d.nc
/-- The map of the last of the first k writes. -/
def lastM (A : Nat → Int) (D : Nat → ByteArray) : Nat → Int → Option Value
  | 0, _ => none
  | k + 1, x => if x = A k then some (.agg #[.int .i64 (A k), .string (D k)]) else lastM A D k x
theorem lastM_rd (A : Nat → Int) (D : Nat → ByteArray) (b : ByteArray) (x : Int) (k : Nat) : (lastM A D k x = none ∧ rdF A D b x k = b) ∨ lastM A D k x = some (.agg #[.int .i64 x, .string (rdF A D b x k)]) := by
  induction k with
  | zero => exact .inl ⟨rfl, rfl⟩
  | succ k ih =>
    unfold lastM rdF
    by_cases h : A k = x
    · right
      rw [if_pos h.symm, if_pos h, h]
    · rw [if_neg (fun e => h e.symm), if_neg h]
      exact ih
/-- A value is a disk that holds d. -/
def DiskV (w : World) (d : Dk) (a0 a1 a2 : Option Addr) : Prop := Strs w a0 d.nb d.B ∧ Pens w a1 d.nc d.A d.D ∧ Strs w a2 d.ns d.S
theorem DiskV.below {w w' : World} {d : Dk} {a0 a1 a2 : Option Addr} (h : DiskV w d a0 a1 a2) (hb : Below w.heap.size w w') : DiskV w' d a0 a1 a2 := ⟨h.1.below hb, h.2.1.below hb, h.2.2.below hb⟩
theorem DiskV.drewN {w : World} {d : Dk} {a0 a1 a2 : Option Addr} (h : DiskV w d a0 a1 a2) (q : Nat) : DiskV (w.drewN q) d a0 a1 a2 := ⟨h.1.drewN q, h.2.1.drewN q, h.2.2.drewN q⟩
/-- Block b is a variable of three cells. -/
def Box3 (w : World) (b : Nat) (t : TypeId) (x y z : Value) : Prop := w.rowIs b t 3 (fun i => if i = 0 then x else if i = 1 then y else z)
theorem Box3.c0 {w : World} {b : Nat} {t : TypeId} {x y z : Value} (h : Box3 w b t x y z) : w.cell? ⟨b, 0, none⟩ = some x := World.rowIs.cell h (i := 0) (by omega)
theorem Box3.c1 {w : World} {b : Nat} {t : TypeId} {x y z : Value} (h : Box3 w b t x y z) : w.cell? ⟨b, 1, none⟩ = some y := World.rowIs.cell h (i := 1) (by omega)
theorem Box3.c2 {w : World} {b : Nat} {t : TypeId} {x y z : Value} (h : Box3 w b t x y z) : w.cell? ⟨b, 2, none⟩ = some z := World.rowIs.cell h (i := 2) (by omega)
theorem Box3.fr {w : World} {b : Nat} {t : TypeId} {x y z : Value} (h : Box3 w b t x y z) (i : Nat) : w.frozen? ⟨b, i, none⟩ = false := World.rowIs.frozen h i
theorem Box3.lt {w : World} {b : Nat} {t : TypeId} {x y z : Value} (h : Box3 w b t x y z) : b < w.heap.size := World.rowIs.lt h
theorem Box3.ofBlock {w w' : World} {b : Nat} {t : TypeId} {x y z : Value} (h : Box3 w b t x y z) (e : w'.heap[b]? = w.heap[b]?) : Box3 w' b t x y z := World.rowIs.of_block h e
theorem Box3.below {w w' : World} {b : Nat} {t : TypeId} {x y z : Value} (h : Box3 w b t x y z) (hb : Below w.heap.size w w') : Box3 w' b t x y z := h.ofBlock (hb.block b h.lt)
theorem Box3.made (w : World) (t : TypeId) (x y z : Value) : Box3 (w.alloc (.cells #[x, y, z] t)) w.heap.size t x y z := World.rowIs_alloc w #[x, y, z] t _ (fun i hi => by
  rcases (show i = 0 ∨ i = 1 ∨ i = 2 by simp at hi; omega) with rfl | rfl | rfl <;> rfl)
theorem Box3.madeAt {w : World} {b : Nat} (hb : w.heap.size = b) (t : TypeId) (x y z : Value) : Box3 (w.alloc (.cells #[x, y, z] t)) b t x y z := by subst hb; exact Box3.made w t x y z
theorem Box3.alloc {w : World} {b : Nat} {t : TypeId} {x y z : Value} (h : Box3 w b t x y z) (o : Obj) : Box3 (w.alloc o) b t x y z := World.rowIs.alloc h o
theorem Box3.set0 {w : World} {b : Nat} {t : TypeId} {x y z : Value} (h : Box3 w b t x y z) (v : Value) : Box3 (w.setCell ⟨b, 0, none⟩ v) b t v y z := World.rowIs.congr (World.rowIs.set h 0 v) (fun i hi => by
  rcases (show i = 0 ∨ i = 1 ∨ i = 2 by omega) with rfl | rfl | rfl <;> rfl)
theorem Box3.set1 {w : World} {b : Nat} {t : TypeId} {x y z : Value} (h : Box3 w b t x y z) (v : Value) : Box3 (w.setCell ⟨b, 1, none⟩ v) b t x v z := World.rowIs.congr (World.rowIs.set h 1 v) (fun i hi => by
  rcases (show i = 0 ∨ i = 1 ∨ i = 2 by omega) with rfl | rfl | rfl <;> rfl)
theorem Box3.set2 {w : World} {b : Nat} {t : TypeId} {x y z : Value} (h : Box3 w b t x y z) (v : Value) : Box3 (w.setCell ⟨b, 2, none⟩ v) b t x y v := World.rowIs.congr (World.rowIs.set h 2 v) (fun i hi => by
  rcases (show i = 0 ∨ i = 1 ∨ i = 2 by omega) with rfl | rfl | rfl <;> rfl)
theorem Box3.other {w : World} {b : Nat} {t : TypeId} {x y z : Value} (h : Box3 w b t x y z) {a : Addr} (ha : b ≠ a.block) (v : Value) : Box3 (w.setCell a v) b t x y z := World.rowIs.setOther h ha v
theorem Box3.load {w : World} {b : Nat} {x y z : Value} (h : Box3 w b 33 x y z) : (loadVar 33 ⟨b, 0, none⟩).run Tryz.prog w = .ok (.agg #[x, y, z]) w := by
  have h0 := h.c0
  have h1 := h.c1
  have h2 := h.c2
  go_simp
/-- The variable in block g holds the error at p. -/
def ErrAt (w : World) (g : Nat) (p : Addr) : Prop := w.cell? ⟨g, 0, none⟩ = some (.iface 200 (.pointer (some p)))
theorem ErrAt.below {w w' : World} {g : Nat} {p : Addr} (h : ErrAt w g p) (hb : Below w.heap.size w w') : ErrAt w' g p := by
  unfold ErrAt at *
  rw [hb.cell (strBlock h)]; exact h
end Go.Proofs.YtbecnaabmlkjjabGreatDoor
namespace Go.Proofs.YtbecnaabmlkjjabGreatDoor
open Go.ChangeShapes Go.WideShapes Go.ChangeAt Go.RowKit
/-- What is known of a disk that came in. -/
structure CameD (W : World) (k : Dk) (a0 a1 a2 : Option Addr) : Prop where
  v : DiskV W k a0 a1 a2
  l0 : k.nb ≤ maxLen
  l1 : k.nc ≤ maxLen
  l2 : k.ns ≤ maxLen
  m0 : ∀ i, i < k.nb → (k.B i).size ≤ maxLen
  m1 : ∀ i, i < k.nc → (k.D i).size ≤ maxLen
  m2 : ∀ i, i < k.ns → (k.S i).size ≤ maxLen
theorem cStr : Tryz.prog.cellsOf 9 = 1 := by kernel_rfl
theorem strs_came {H : Type} {enc : TypeId × Value → H} {W : World} {fuel : Nat} {x : Value} {y : DataW H × List MemPlace} (h : DataW.trod enc Tryz.prog W 0 (fun _ => true) true fuel 22 [x] = some y) :
    ∃ (a : Option Addr) (n c : Nat) (f : Nat → ByteArray), x = .slice a n c ∧ Strs W a n f ∧ n ≤ maxLen ∧ ∀ i, i < n → (f i).size ≤ maxLen := by
  rcases open_strings Tryz.underlying22 Tryz.underlying9 cStr h with ⟨hcs, _⟩ | ⟨a, len, cap, ss, hcs, _, hl, hm, hz, _, hcell, hsz⟩
  · cases hcs
    exact ⟨none, 0, 0, fun _ => ⟨#[]⟩, rfl, fun i hi => absurd hi (by omega), Nat.zero_le _, fun i hi => absurd hi (by omega)⟩
  · cases hcs
    have hz' : ss.length = cap := by simpa using hz
    refine ⟨some a, len, cap, fun i => ss.getD i ByteArray.empty, rfl, fun i hi => ?_, Nat.le_trans hl hm, fun i hi => ?_⟩
    · obtain ⟨b, off, spot⟩ := a
      have h0 := hcell i (by omega)
      have hspot : spot = none := by simpa [Addr.add] using World.cell?_spot (hcell 0 (by omega))
      subst hspot
      exact ⟨b, off, rfl, by rw [← Go.WideShapes.add_plain]; exact h0⟩
    · have hi' : i < ss.length := by omega
      have : ss.getD i ByteArray.empty = ss[i] := by simp [List.getD_eq_getElem?_getD, hi']
      show (ss.getD i ByteArray.empty).size ≤ maxLen
      rw [this]
      exact hsz _ (List.getElem_mem hi')
theorem pens_came {H : Type} {enc : TypeId × Value → H} {W : World} {fuel : Nat} {x : Value} {y : DataW H × List MemPlace} (h : DataW.trod enc Tryz.prog W 0 (fun _ => true) true fuel 23 [x] = some y) :
    ∃ (a : Option Addr) (n c : Nat) (A : Nat → Int) (D : Nat → ByteArray), x = .slice a n c ∧ Pens W a n A D ∧ n ≤ maxLen ∧ ∀ i, i < n → (D i).size ≤ maxLen := by
  rcases Deep.open_slice_pairs Tryz.underlying23 Tryz.underlying80 (by kernel_rfl) rfl rfl (by kernel_rfl) (by kernel_rfl) h with ⟨hcs, _⟩ | ⟨a, len, cap, m, n, V0, V1, D0, D1, P0, P1, hcs, _, hl, hm, hmm, _, hel⟩
  · cases hcs
    exact ⟨none, 0, 0, fun _ => 0, fun _ => ⟨#[]⟩, rfl, fun i hi => absurd hi (by omega), Nat.zero_le _, fun i hi => absurd hi (by omega)⟩
  · cases hcs
    have hmm' : m = cap := by simpa using hmm
    have each : ∀ i, i < len → ∃ (x : Int) (s : ByteArray), V0 i = .int .i64 x ∧ V1 i = .string s ∧ s.size ≤ maxLen := fun i hi => by
      obtain ⟨_, _, e3, e4⟩ := hel i (by omega)
      obtain ⟨x, hx, _⟩ := DataW.trod_int Tryz.underlying3 e3
      obtain ⟨s, hs, _, hz⟩ := DataW.trod_string Tryz.underlying9 e4
      exact ⟨x, s, (List.cons.inj hx).1, (List.cons.inj hs).1, hz⟩
    refine ⟨some a, len, cap, fun i => match V0 i with | .int _ x => x | _ => 0, fun i => match V1 i with | .string s => s | _ => ⟨#[]⟩, rfl, fun i hi => ?_, Nat.le_trans hl hm, fun i hi => ?_⟩
    · obtain ⟨x, s, hx, hs, _⟩ := each i hi
      obtain ⟨b, off, spot⟩ := a
      obtain ⟨c0, c1, _, _⟩ := hel i (by omega)
      have hspot : spot = none := by simpa [Addr.add] using World.cell?_spot (hel 0 (by omega)).1
      subst hspot
      rw [Go.WideShapes.add_plain] at c0 c1
      exact ⟨b, off, rfl, by rw [c0]; simp only [hx], by rw [Nat.add_assoc, c1]; simp only [hs]⟩
    · obtain ⟨x, s, hx, hs, hz⟩ := each i hi
      show (match V1 i with | .string s => s | _ => ⟨#[]⟩ : ByteArray).size ≤ maxLen
      rw [hs]
      exact hz
set_option maxRecDepth 100000 in
/-- A disk among the arguments. -/
theorem openDisk {H : Type} {enc : TypeId × Value → H} {W : World} {base : Nat} {v : Value} {d : DataW H} {ps : List MemPlace} (hok : Value.okWide Tryz.prog W .any base 25 v) (h : DataW.Trod enc Tryz.prog W 0 (fun _ => true) true 25 v d ps) :
    ∃ (k : Dk) (a0 a1 a2 : Option Addr) (c0 c1 c2 : Nat), v = .agg #[.slice a0 k.nb c0, .slice a1 k.nc c1, .slice a2 k.ns c2] ∧ CameD W k a0 a1 a2 := by
  obtain ⟨cs, rfl, hsz⟩ := okWide_struct Tryz.underlying25 hok
  obtain ⟨fuel, hf⟩ := h
  obtain ⟨y0, y1, y2, n, _, hl, h0, h1, h2⟩ := Deep.trod_struct3 Tryz.underlying25 hf
  have hc3 : Tryz.prog.cellsOf 25 = 3 := by kernel_rfl
  have hcS : Tryz.prog.cellsOf 22 = 1 := by kernel_rfl
  have hcP : Tryz.prog.cellsOf 23 = 1 := by kernel_rfl
  rw [hc3] at hsz
  obtain ⟨l⟩ := cs
  match l, hsz with
  | [x, y, z], _ =>
    simp only [Value.cells, hcS, hcP, List.drop_zero, List.take_succ_cons, List.take_zero, List.drop_succ_cons] at h0 h1 h2
    obtain ⟨a0, n0, c0, f0, rfl, s0, l0, m0⟩ := strs_came h0
    obtain ⟨a1, n1, c1, A, D, rfl, s1, l1, m1⟩ := pens_came h1
    obtain ⟨a2, n2, c2, f2, rfl, s2, l2, m2⟩ := strs_came h2
    exact ⟨⟨n0, f0, n1, A, D, n2, f2⟩, a0, a1, a2, c0, c1, c2, rfl, ⟨s0, s1, s2⟩, l0, l1, l2, m0, m1, m2⟩
theorem errRow (u : TypeId) (h : Tryz.prog.typeName? 3 u = some "*errors.errorString") : u = 200 :=
  typeName_ptr_named (nm := "errors.errorString") (by rw [show "*" ++ "errors.errorString" = "*errors.errorString" from by decide]; kernel_rfl) (by kernel_rfl) (by decide) u (by rw [show "*" ++ "errors.errorString" = "*errors.errorString" from by decide]; exact h)
end Go.Proofs.YtbecnaabmlkjjabGreatDoor
namespace Go.Proofs.YtbecnaabmlkjjabGreatDoor
namespace Sha
def ad (a b : Nat) : Nat := (a + b) % 4294967296
def xr (a b : Nat) : Nat := (a ^^^ b) % 4294967296
def an (a b : Nat) : Nat := (a &&& b) % 4294967296
def orr (a b : Nat) : Nat := (a ||| b) % 4294967296
def sr (a n : Nat) : Nat := a / 2 ^ n
def sl (a n : Nat) : Nat := a * 2 ^ n % 4294967296
/-- A word turned to the right. -/
def rt (x n : Nat) : Nat := orr (sr x n) (sl x (32 - n))
def nt (x : Nat) : Nat := xr 4294967295 x
theorem ad_lt (a b : Nat) : ad a b < 4294967296 := Nat.mod_lt _ (by omega)
theorem orr_lt (a b : Nat) : orr a b < 4294967296 := Nat.mod_lt _ (by omega)
theorem orr_comm (a b : Nat) : orr a b = orr b a := by unfold orr; rw [Nat.or_comm]
theorem tb (x i : Nat) : (x % 4294967296).testBit i = (decide (i < 32) && x.testBit i) := by
  have := Nat.testBit_mod_two_pow x 32 i
  rwa [show (2 : Nat) ^ 32 = 4294967296 from by decide] at this
theorem tb1 {i : Nat} (h : i < 32) : (4294967295 : Nat).testBit i = true := by
  have := Nat.testBit_two_pow_sub_one 32 i
  rw [show (2 : Nat) ^ 32 - 1 = 4294967295 from by decide] at this
  rw [this]; simpa using h
/-- Choose: with or, as with exclusive or. -/
theorem ch_same (e f g : Nat) : orr (an e f) (an (nt e) g) = xr (an e f) (an (nt e) g) := by
  apply Nat.eq_of_testBit_eq
  intro i
  unfold orr xr an nt xr
  rw [tb, tb, Nat.testBit_or, Nat.testBit_xor, tb, tb, Nat.testBit_and, Nat.testBit_and, tb, Nat.testBit_xor]
  by_cases h : i < 32
  · rw [tb1 h]
    cases e.testBit i <;> cases f.testBit i <;> cases g.testBit i <;> simp [h]
  · simp [h]
/-- Majority: with or, as with exclusive or. -/
theorem maj_same (a b c : Nat) : orr (orr (an a b) (an a c)) (an b c) = xr (xr (an a b) (an a c)) (an b c) := by
  apply Nat.eq_of_testBit_eq
  intro i
  unfold orr xr an
  simp only [tb, Nat.testBit_or, Nat.testBit_xor, Nat.testBit_and]
  cases a.testBit i <;> cases b.testBit i <;> cases c.testBit i <;> cases decide (i < 32) <;> rfl
def kL : List Nat := [0x428a2f98, 0x71374491, 0xb5c0fbcf, 0xe9b5dba5, 0x3956c25b, 0x59f111f1, 0x923f82a4, 0xab1c5ed5,
  0xd807aa98, 0x12835b01, 0x243185be, 0x550c7dc3, 0x72be5d74, 0x80deb1fe, 0x9bdc06a7, 0xc19bf174,
  0xe49b69c1, 0xefbe4786, 0x0fc19dc6, 0x240ca1cc, 0x2de92c6f, 0x4a7484aa, 0x5cb0a9dc, 0x76f988da,
  0x983e5152, 0xa831c66d, 0xb00327c8, 0xbf597fc7, 0xc6e00bf3, 0xd5a79147, 0x06ca6351, 0x14292967,
  0x27b70a85, 0x2e1b2138, 0x4d2c6dfc, 0x53380d13, 0x650a7354, 0x766a0abb, 0x81c2c92e, 0x92722c85,
  0xa2bfe8a1, 0xa81a664b, 0xc24b8b70, 0xc76c51a3, 0xd192e819, 0xd6990624, 0xf40e3585, 0x106aa070,
  0x19a4c116, 0x1e376c08, 0x2748774c, 0x34b0bcb5, 0x391c0cb3, 0x4ed8aa4a, 0x5b9cca4f, 0x682e6ff3,
  0x748f82ee, 0x78a5636f, 0x84c87814, 0x8cc70208, 0x90befffa, 0xa4506ceb, 0xbef9a3f7, 0xc67178f2]
def hL : List Nat := [0x6a09e667, 0xbb67ae85, 0x3c6ef372, 0xa54ff53a, 0x510e527f, 0x9b05688c, 0x1f83d9ab, 0x5be0cd19]
/-- The round's word, the first digest. -/
def kc (i : Nat) : Nat := kL.getD i 0
def h0 (i : Nat) : Nat := hL.getD i 0
theorem hL_lt : ∀ x ∈ hL, x < 4294967296 := by decide
theorem getD_lt {l : List Nat} (h : ∀ x ∈ l, x < 4294967296) (i : Nat) : l.getD i 0 < 4294967296 := by
  rw [List.getD_eq_getElem?_getD]
  cases hh : l[i]? with
  | none => show 0 < 4294967296; omega
  | some v => exact h v (List.mem_of_getElem? hh)
theorem h0_lt (i : Nat) : h0 i < 4294967296 := getD_lt hL_lt i
/-- Four bytes as a word. -/
def word (b : Nat → Nat) (i : Nat) : Nat := orr (orr (orr (sl (b (4 * i)) 24) (sl (b (4 * i + 1)) 16)) (sl (b (4 * i + 2)) 8)) (b (4 * i + 3))
theorem word_lt (b : Nat → Nat) (i : Nat) : word b i < 4294967296 := orr_lt _ _
def s0 (x : Nat) : Nat := xr (xr (rt x 7) (rt x 18)) (sr x 3)
def s1 (x : Nat) : Nat := xr (xr (rt x 17) (rt x 19)) (sr x 10)
/-- The words of a block's rounds. -/
def ws (b : Nat → Nat) (i : Nat) : Nat :=
  if h : i < 16 then word b i else ad (ad (ad (ws b (i - 16)) (s0 (ws b (i - 15)))) (ws b (i - 7))) (s1 (ws b (i - 2)))
termination_by i
decreasing_by all_goals omega
theorem ws_in (b : Nat → Nat) {i : Nat} (h : i < 16) : ws b i = word b i := by rw [ws, dif_pos h]
theorem ws_out (b : Nat → Nat) {i : Nat} (h : ¬ i < 16) : ws b i = ad (ad (ad (ws b (i - 16)) (s0 (ws b (i - 15)))) (ws b (i - 7))) (s1 (ws b (i - 2))) := by rw [ws, dif_neg h]
theorem ws_lt (b : Nat → Nat) (i : Nat) : ws b i < 4294967296 := by
  by_cases h : i < 16
  · rw [ws_in b h]; exact word_lt _ _
  · rw [ws_out b h]; exact ad_lt _ _
def big1 (e : Nat) : Nat := xr (xr (rt e 6) (rt e 11)) (rt e 25)
def big0 (a : Nat) : Nat := xr (xr (rt a 2) (rt a 13)) (rt a 22)
def t1 (v : Nat → Nat) (k w : Nat) : Nat := ad (ad (ad (ad (v 7) (big1 (v 4))) (xr (an (v 4) (v 5)) (an (nt (v 4)) (v 6)))) k) w
def t2 (v : Nat → Nat) : Nat := ad (big0 (v 0)) (xr (xr (an (v 0) (v 1)) (an (v 0) (v 2))) (an (v 1) (v 2)))
def step (v : Nat → Nat) (k w : Nat) (j : Nat) : Nat :=
  if j = 0 then ad (t1 v k w) (t2 v) else if j = 4 then ad (v 3) (t1 v k w) else v (j - 1)
def rounds (W v : Nat → Nat) : Nat → Nat → Nat
  | 0 => v
  | i + 1 => step (rounds W v i) (kc i) (W i)
/-- A digest behind a block more. -/
def block (v b : Nat → Nat) (j : Nat) : Nat := ad (v j) (rounds (ws b) v 64 j)
def hashTo (c : Nat → Nat) : Nat → Nat → Nat
  | 0 => h0
  | n + 1 => block (hashTo c n) (fun j => c (64 * n + j))
theorem hashTo_lt (c : Nat → Nat) (n j : Nat) : hashTo c n j < 4294967296 := by
  cases n with
  | zero => exact h0_lt j
  | succ n => exact ad_lt _ _
/-- How long a text of n bytes is when it is filled up. -/
def fullN (n : Nat) : Nat := (n + 72) / 64 * 64
def fullF (n : Nat) (f : Nat → Nat) (j : Nat) : Nat :=
  if j < n then f j else if j = n then 128 else if j < fullN n - 8 then 0 else 8 * n / 2 ^ (8 * (fullN n - 1 - j)) % 256
theorem fullF_lt {n : Nat} {f : Nat → Nat} (h : ∀ j, f j < 256) (j : Nat) : fullF n f j < 256 := by
  unfold fullF
  split
  · exact h j
  · split
    · omega
    · split
      · omega
      · exact Nat.mod_lt _ (by omega)
/-- The bytes of a digest. -/
def outB (v : Nat → Nat) (j : Nat) : Nat := v (j / 4) / 2 ^ (24 - 8 * (j % 4)) % 256
theorem outB_lt (v : Nat → Nat) (j : Nat) : outB v j < 256 := Nat.mod_lt _ (by omega)
/-- The hash of n bytes: its 32 bytes. -/
def hash (n : Nat) (f : Nat → Nat) : Nat → Nat := outB (hashTo (fullF n f) (fullN n / 64))
theorem hash_lt (n : Nat) (f : Nat → Nat) (j : Nat) : hash n f j < 256 := outB_lt _ _
/-- A text behind another one. -/
def cat (n : Nat) (f g : Nat → Nat) (j : Nat) : Nat := if j < n then f j else g (j - n)
theorem cat_lt {n : Nat} {f g : Nat → Nat} (hf : ∀ j, f j < 256) (hg : ∀ j, g j < 256) (j : Nat) : cat n f g j < 256 := by
  unfold cat
  split
  · exact hf j
  · exact hg _
/-- A key of 64 bytes. -/
def keyF (n : Nat) (f : Nat → Nat) (j : Nat) : Nat := if 64 < n then (if j < 32 then hash n f j else 0) else (if j < n then f j else 0)
theorem keyF_lt {n : Nat} {f : Nat → Nat} (h : ∀ j, f j < 256) (j : Nat) : keyF n f j < 256 := by
  unfold keyF
  split
  · split
    · exact hash_lt _ _ _
    · omega
  · split
    · exact h j
    · omega
def maskF (k : Nat → Nat) (m : Nat) (j : Nat) : Nat := k j ^^^ m
theorem maskF_lt {k : Nat → Nat} {m : Nat} (h : ∀ j, k j < 256) (hm : m < 256) (j : Nat) : maskF k m j < 256 := Nat.xor_lt_two_pow (n := 8) (h j) hm
/-- The code of n bytes under a key of 64. -/
def mac (k : Nat → Nat) (n : Nat) (f : Nat → Nat) : Nat → Nat := hash 96 (cat 64 (maskF k 0x5c) (hash (64 + n) (cat 64 (maskF k 0x36) f)))
theorem mac_lt (k : Nat → Nat) (n : Nat) (f : Nat → Nat) (j : Nat) : mac k n f j < 256 := hash_lt _ _ _
/-- The blocks that are drawn: block i (from 1 on). -/
def drawnB (k : Nat → Nat) (m : Nat) (g : Nat → Nat) : Nat → Nat → Nat
  | 0 => fun _ => 0
  | i + 1 => mac k ((if i = 0 then 0 else 32) + m + 1) (cat (if i = 0 then 0 else 32) (drawnB k m g i) (cat m g (fun _ => (i + 1) % 256)))
def drawnF (k : Nat → Nat) (m : Nat) (g : Nat → Nat) (j : Nat) : Nat := drawnB k m g (j / 32 + 1) (j % 32)
theorem drawnF_lt (k : Nat → Nat) (m : Nat) (g : Nat → Nat) (j : Nat) : drawnF k m g j < 256 := mac_lt _ _ _ _
end Sha
end Go.Proofs.YtbecnaabmlkjjabGreatDoor
namespace Go.Proofs.YtbecnaabmlkjjabGreatDoor
open Go.ChangeShapes Go.WideShapes Go.ChangeAt Go.RowKit
end Go.Proofs.YtbecnaabmlkjjabGreatDoor
namespace Go.Proofs.YtbecnaabmlkjjabGreatDoor
theorem run_index_flat {P : Program} {t e : TypeId} {n : Nat} {d : TypeDesc} (hu : P.underlying t = some (.array n e)) (he : P.underlying e = some d) (hd : d.isRow = false)
    (hs : (P.info? e).map (·.size) = some 1) {A : Array Value} {k : Nat} {v : Value} (hk : k < n) (hv : A[k]? = some v) (w : World) :
    (Instr.index t (.agg A) (.int .i64 (k : Int))).run P w = .ok v w := by
  cases hq : P.info? e with
  | none => simp [hq] at hs
  | some i =>
    have hz : i.size = 1 := by simpa [hq] using hs
    have hagg : (isAgg e).run P w = .ok false w := by
      unfold isAgg
      rw [Sem.run_bind, run_underlying he w]
      cases d <;> simp_all
    have hk1 : (0 : Int) ≤ (k : Int) ∧ (k : Int) < (n : Int) := by omega
    simp [Instr.index, asIntOf, Sem.run_bind, run_underlying hu w, hk1, sizeOf, typeInfo, hq, hz, part, hagg, hv]
    intro h
    omega
end Go.Proofs.YtbecnaabmlkjjabGreatDoor
namespace Go.Proofs.YtbecnaabmlkjjabGreatDoor
open Go.ChangeShapes Go.WideShapes Go.ChangeAt Go.RowKit
/-- n bytes as cells. -/
def bv (n : Nat) (f : Nat → Nat) : List Value := (List.range n).map fun i => .int .u8 (f i : Nat)
/-- n bytes as the value of an array. -/
def bA (n : Nat) (f : Nat → Nat) : Array Value := (bv n f).toArray
theorem bv_length (n : Nat) (f : Nat → Nat) : (bv n f).length = n := by simp [bv]
theorem bA_size (n : Nat) (f : Nat → Nat) : (bA n f).size = n := by simp [bA, bv]
theorem bA_toList (n : Nat) (f : Nat → Nat) : (bA n f).toList = bv n f := by simp [bA]
theorem bv_at {n : Nat} {f : Nat → Nat} {k : Nat} (h : k < n) : (bv n f)[k]? = some (.int .u8 (f k : Nat)) := by simp [bv, h]
theorem bA_at {n : Nat} {f : Nat → Nat} {k : Nat} (h : k < n) : (bA n f)[k]? = some (.int .u8 (f k : Nat)) := by rw [bA, List.getElem?_toArray]; exact bv_at h
theorem bv_congr {n : Nat} {f g : Nat → Nat} (h : ∀ i, i < n → f i = g i) : bv n f = bv n g := by
  unfold bv
  exact List.map_congr_left (fun i hi => by rw [h i (List.mem_range.1 hi)])
theorem bA_one (n : Nat) (f : Nat → Nat) : (bA n f).all (·.oneCell') = true := all_oneCell_toArray (fun v hv => by
  obtain ⟨i, _, rfl⟩ := List.mem_map.1 hv
  rfl)
/-- The row in block b holds n bytes. -/
def Row8 (w : World) (b : Nat) (t : TypeId) (n : Nat) (f : Nat → Nat) : Prop := w.rowIs b t n (fun i => .int .u8 (f i : Nat))
theorem Row8.range {w : World} {b n : Nat} {t : TypeId} {f : Nat → Nat} (h : Row8 w b t n f) : w.rangeAt b 0 (bv n f) := fun j v hv => by
  have hj : j < n := by have := (List.getElem?_eq_some_iff.1 hv).1; rwa [bv_length] at this
  rw [bv_at hj] at hv
  cases hv
  rw [Nat.zero_add]
  exact h.cell hj
theorem Row8.there {w : World} {b n : Nat} {t : TypeId} {f : Nat → Nat} (h : Row8 w b t n f) : w.there b 0 n := fun j hj => by
  rw [Nat.zero_add, h.cell hj, h.frozen j]
  exact ⟨rfl, rfl⟩
theorem Row8.boxed (w : World) (t : TypeId) (n : Nat) (f : Nat → Nat) : Row8 (w.alloc (.cells (bA n f) t)) w.heap.size t n f := by
  have := World.rowIs_alloc w (bA n f) t (fun i => .int .u8 (f i : Nat)) (fun i hi => bA_at (by rwa [bA_size] at hi))
  rw [bA_size] at this
  exact this
theorem Row8.zeros (w : World) (t : TypeId) (n : Nat) : Row8 (w.alloc (.cells (Array.replicate n (.int .u8 0)) t)) w.heap.size t n (fun _ => 0) := by
  have := World.rowIs_alloc w (Array.replicate n (.int .u8 0)) t (fun _ => .int .u8 ((0 : Nat) : Int)) (fun i hi => by
    have hi' : i < n := by simpa using hi
    simp [hi'])
  rw [Array.size_replicate] at this
  exact this
theorem Row8.set {w : World} {b n : Nat} {t : TypeId} {f : Nat → Nat} (h : Row8 w b t n f) (i v : Nat) : Row8 (w.setCell ⟨b, i, none⟩ (.int .u8 (v : Nat))) b t n (fun j => if j = i then v else f j) :=
  (World.rowIs.set h i _).congr (fun j _ => by by_cases e : j = i <;> simp [e])
theorem Row8.congr {w : World} {b n : Nat} {t : TypeId} {f g : Nat → Nat} (h : Row8 w b t n f) (e : ∀ i, i < n → f i = g i) : Row8 w b t n g := World.rowIs.congr h (fun i hi => by rw [e i hi])
theorem Row8.below {w w' : World} {b n : Nat} {t : TypeId} {f : Nat → Nat} (h : Row8 w b t n f) (hb : Below w.heap.size w w') : Row8 w' b t n f := World.rowIs.of_block h (hb.block b h.lt)
theorem Row8.other {w : World} {b n : Nat} {t : TypeId} {f : Nat → Nat} (h : Row8 w b t n f) {a : Addr} (ha : b ≠ a.block) (v : Value) : Row8 (w.setCell a v) b t n f := World.rowIs.setOther h ha v
theorem Row8.alloc {w : World} {b n : Nat} {t : TypeId} {f : Nat → Nat} (h : Row8 w b t n f) (o : Obj) : Row8 (w.alloc o) b t n f := World.rowIs.alloc h o
theorem Row8.drewN {w : World} {b n : Nat} {t : TypeId} {f : Nat → Nat} (h : Row8 w b t n f) (q : Nat) : Row8 (w.drewN q) b t n f := h
theorem below_setCells {B b : Nat} {a : World} (hb : B ≤ b) (vs : List Value) : ∀ (o : Nat) (w : World), Below B a w → Below B a (w.setCells b o vs) := by
  induction vs with
  | nil => intro o w h; exact h
  | cons v vs ih => intro o w h; exact ih (o + 1) _ (h.setCell hb v)
theorem rowIs_setCells {b n : Nat} {t : TypeId} (vs : List Value) : ∀ (o : Nat) (w : World) (f : Nat → Value), w.rowIs b t n f →
    (w.setCells b o vs).rowIs b t n (fun i => if o ≤ i ∧ i < o + vs.length then vs.getD (i - o) undef else f i) := by
  induction vs with
  | nil => intro o w f h; exact h.congr (fun i _ => by rw [if_neg (by intro g; have := g.1; have := g.2; simp at this; omega)])
  | cons v vs ih =>
    intro o w f h
    refine (ih (o + 1) _ _ (h.set o v)).congr (fun i _ => ?_)
    by_cases h1 : o + 1 ≤ i ∧ i < o + 1 + vs.length
    · rw [if_pos h1, if_pos (by simp; omega)]
      rw [show i - o = (i - (o + 1)) + 1 from by omega]
      rfl
    · rw [if_neg h1]
      by_cases h2 : i = o
      · subst h2; simp
      · rw [if_neg h2, if_neg (by simp; omega)]
theorem Row8.stored {w : World} {b n : Nat} {t : TypeId} {f : Nat → Nat} (h : Row8 w b t n f) (g : Nat → Nat) : Row8 (w.setCells b 0 (bv n g)) b t n g :=
  (rowIs_setCells (bv n g) 0 w _ h).congr (fun i hi => by
    rw [if_pos (by rw [bv_length]; omega), Nat.sub_zero, List.getD_eq_getElem?_getD, bv_at hi]; rfl)
theorem rowIs_setCells_other {b b' n : Nat} {t : TypeId} {f : Nat → Value} (hne : b' ≠ b) (vs : List Value) : ∀ (o : Nat) (w : World), w.rowIs b' t n f → (w.setCells b o vs).rowIs b' t n f := by
  induction vs with
  | nil => intro o w h; exact h
  | cons v vs ih => intro o w h; exact ih (o + 1) _ (h.setOther hne v)
theorem Row8.storedOther {w : World} {b b' n : Nat} {t : TypeId} {f : Nat → Nat} (h : Row8 w b' t n f) (hne : b' ≠ b) (o : Nat) (vs : List Value) : Row8 (w.setCells b o vs) b' t n f := rowIs_setCells_other hne vs o w h
/-- What a function hands back whose one result lies in a variable. -/
theorem results_cell_one {fn : Func} {p : Tmp} {ty : TypeId} (h : fn.results = #[.cell p ty]) (tmps : Array Value) (P : Program) (w : World) {b o : Nat} (hp : tmps.getD p undef = .pointer (some ⟨b, o, none⟩)) {v : Value} (hl : (loadVar ty ⟨b, o, none⟩).run P w = .ok v w) :
    (results fn tmps).run P w = .ok v w := by
  have hp' : tmps[p]?.getD undef = .pointer (some ⟨b, o, none⟩) := by simpa using hp
  simp only [results, h]
  simp [hp', asAddr, hl]
theorem Row8.load {P : Program} {w : World} {b n : Nat} {t : TypeId} {f : Nat → Nat} (h : Row8 w b t n f) {d : TypeDesc} (hu : P.underlying t = some d) (hd : d.isRow = true) (hi : (P.info? t).map (·.size) = some n) : (loadVar t ⟨b, 0, none⟩).run P w = .ok (.agg (bA n f)) w :=
  run_loadVar_mid w b 0 t (bv n f) d h.range hu hd (by rw [bv_length]; exact hi)
theorem Row8.boxedAt {w : World} {b : Nat} (hb : w.heap.size = b) (t : TypeId) (n : Nat) (f : Nat → Nat) : Row8 (w.alloc (.cells (bA n f) t)) b t n f := by subst hb; exact Row8.boxed w t n f
theorem Row8.zerosAt {w : World} {b : Nat} (hb : w.heap.size = b) (t : TypeId) (n : Nat) : Row8 (w.alloc (.cells (Array.replicate n (.int .u8 0)) t)) b t n (fun _ => 0) := by subst hb; exact Row8.zeros w t n
/-- Sixteen noughts, as the walk writes them out. -/
def z16 : Array Value := #[.int .u8 0, .int .u8 0, .int .u8 0, .int .u8 0, .int .u8 0, .int .u8 0, .int .u8 0, .int .u8 0, .int .u8 0, .int .u8 0, .int .u8 0, .int .u8 0, .int .u8 0, .int .u8 0, .int .u8 0, .int .u8 0]
theorem z16_eq : z16 = Array.replicate 16 (.int .u8 0) := by kernel_rfl
theorem Row8.z16At {w : World} {b : Nat} (hb : w.heap.size = b) (t : TypeId) : Row8 (w.alloc (.cells z16 t)) b t 16 (fun _ => 0) := by rw [z16_eq]; exact Row8.zerosAt hb t 16
theorem Row8.zerosSetAt {w : World} {b : Nat} (hb : w.heap.size = b) (t : TypeId) (n i v : Nat) : Row8 (w.alloc (.cells ((Array.replicate n (.int .u8 0)).setIfInBounds i (.int .u8 (v : Nat))) t)) b t n (fun j => if j = i then v else 0) := by
  subst hb
  have := World.rowIs_alloc w ((Array.replicate n (.int .u8 0)).setIfInBounds i (.int .u8 (v : Nat))) t (fun j => .int .u8 ((if j = i then v else 0 : Nat) : Int)) (fun j hj => by
    have hj' : j < n := by simpa using hj
    rw [Array.getElem?_setIfInBounds]
    by_cases e : i = j
    · subst e; simp [hj']
    · rw [if_neg e]
      rw [if_neg (fun h => e h.symm)]
      simp [hj'])
  simpa [Row8] using this
end Go.Proofs.YtbecnaabmlkjjabGreatDoor
