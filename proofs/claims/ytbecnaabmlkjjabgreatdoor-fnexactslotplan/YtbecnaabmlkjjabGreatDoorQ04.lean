/-
  Texts of the proof, joined: DiskDefs, DiskTo.
-/
import Derived.Test.YtbecnaabmlkjjabGreatDoorQ01
import Derived.Test.YtbecnaabmlkjjabGreatDoorQ03
import Derived.Laws.ResultCell
import Derived.Deep.RegionWith
namespace Go.Proofs.YtbecnaabmlkjjabGreatDoor
open Go.ChangeShapes Go.WideShapes Go.ChangeAt Go.RowKit
def Pens (w : World) (a : Option Addr) (n : Nat) (A : Nat → Int) (D : Nat → ByteArray) : Prop := ∀ i, i < n → ∃ b off, a = some ⟨b, off, none⟩ ∧ w.cell? ⟨b, off + i * 2, none⟩ = some (.int .i64 (A i)) ∧ w.cell? ⟨b, off + i * 2 + 1, none⟩ = some (.string (D i))
theorem Pens.opened {w : World} {a : Option Addr} {n : Nat} {A : Nat → Int} {D : Nat → ByteArray} (h : Pens w a n A D) (hn : 0 < n) :
    ∃ b off, a = some ⟨b, off, none⟩ ∧ ∀ i, i < n → w.cell? ⟨b, off + i * 2, none⟩ = some (.int .i64 (A i)) ∧ w.cell? ⟨b, off + i * 2 + 1, none⟩ = some (.string (D i)) := by
  obtain ⟨b, off, rfl, _⟩ := h 0 hn
  refine ⟨b, off, rfl, fun i hi => ?_⟩
  obtain ⟨b', off', hab, hc⟩ := h i hi
  cases hab
  exact hc
theorem Pens.below {w w' : World} {a : Option Addr} {n : Nat} {A : Nat → Int} {D : Nat → ByteArray} (h : Pens w a n A D) (hb : Below w.heap.size w w') : Pens w' a n A D := fun i hi => by
  obtain ⟨b, off, ha, hc, hd⟩ := h i hi
  exact ⟨b, off, ha, by rw [hb.cell (strBlock hc)]; exact hc, by rw [hb.cell (strBlock hd)]; exact hd⟩
structure Dk where
  nb : Nat
  B : Nat → ByteArray
  nc : Nat
  A : Nat → Int
  D : Nat → ByteArray
  ns : Nat
  S : Nat → ByteArray
structure Dk.Ok (d : Dk) : Prop where
  nb1 : 1 ≤ d.nb
  nb2 : d.nb ≤ 64
  nc : d.nc ≤ 4096
  ns : d.ns = 0 ∨ d.ns = d.nb
  B : ∀ i, i < d.nb → (d.B i).size ≤ 200
  C : ∀ i, i < d.nc → (0 ≤ d.A i ∧ d.A i < d.nb) ∧ (d.D i).size ≤ 200
  S : ∀ i, i < d.ns → (d.S i).size ≤ 200
open Classical in
noncomputable def Dk.ok (d : Dk) : Bool := decide d.Ok
theorem Dk.ok_true {d : Dk} (h : d.Ok) : d.ok = true := by unfold Dk.ok; simp [h]
theorem Dk.ok_false {d : Dk} (h : ¬ d.Ok) : d.ok = false := by unfold Dk.ok; simp [h]
def rdF (A : Nat → Int) (D : Nat → ByteArray) (b : ByteArray) (x : Int) : Nat → ByteArray
  | 0 => b
  | k + 1 => if A k = x then D k else rdF A D b x k
def Dk.rd (d : Dk) (x : Nat) : ByteArray := rdF d.A d.D (d.B x) (x : Int) d.nc
def lastM (A : Nat → Int) (D : Nat → ByteArray) : Nat → Int → Option Value
  | 0, _ => none
  | k + 1, x => if x = A k then some (.agg #[.int .i64 (A k), .string (D k)]) else lastM A D k x
theorem lastM_rd (A : Nat → Int) (D : Nat → ByteArray) (b : ByteArray) (x : Int) (k : Nat) : (lastM A D k x = none ∧ rdF A D b x k = b) ∨ lastM A D k x = some (.agg #[.int .i64 x, .string (rdF A D b x k)]) := by
  induction k with
  | zero => exact .inl ⟨rfl, rfl⟩
  | succ k ih =>
    unfold lastM rdF
    by_cases h : A k = x
    · right
      rw [if_pos h.symm, if_pos h, h]
    · rw [if_neg (fun e => h e.symm), if_neg h]
      exact ih
def DiskV (w : World) (d : Dk) (a0 a1 a2 : Option Addr) : Prop := Strs w a0 d.nb d.B ∧ Pens w a1 d.nc d.A d.D ∧ Strs w a2 d.ns d.S
theorem DiskV.below {w w' : World} {d : Dk} {a0 a1 a2 : Option Addr} (h : DiskV w d a0 a1 a2) (hb : Below w.heap.size w w') : DiskV w' d a0 a1 a2 := ⟨h.1.below hb, h.2.1.below hb, h.2.2.below hb⟩
def Box3 (w : World) (b : Nat) (t : TypeId) (x y z : Value) : Prop := w.rowIs b t 3 (fun i => if i = 0 then x else if i = 1 then y else z)
theorem Box3.c0 {w : World} {b : Nat} {t : TypeId} {x y z : Value} (h : Box3 w b t x y z) : w.cell? ⟨b, 0, none⟩ = some x := World.rowIs.cell h (i := 0) (by omega)
theorem Box3.c1 {w : World} {b : Nat} {t : TypeId} {x y z : Value} (h : Box3 w b t x y z) : w.cell? ⟨b, 1, none⟩ = some y := World.rowIs.cell h (i := 1) (by omega)
theorem Box3.c2 {w : World} {b : Nat} {t : TypeId} {x y z : Value} (h : Box3 w b t x y z) : w.cell? ⟨b, 2, none⟩ = some z := World.rowIs.cell h (i := 2) (by omega)
theorem Box3.fr {w : World} {b : Nat} {t : TypeId} {x y z : Value} (h : Box3 w b t x y z) (i : Nat) : w.frozen? ⟨b, i, none⟩ = false := World.rowIs.frozen h i
theorem Box3.lt {w : World} {b : Nat} {t : TypeId} {x y z : Value} (h : Box3 w b t x y z) : b < w.heap.size := World.rowIs.lt h
theorem Box3.ofBlock {w w' : World} {b : Nat} {t : TypeId} {x y z : Value} (h : Box3 w b t x y z) (e : w'.heap[b]? = w.heap[b]?) : Box3 w' b t x y z := World.rowIs.of_block h e
theorem Box3.below {w w' : World} {b : Nat} {t : TypeId} {x y z : Value} (h : Box3 w b t x y z) (hb : Below w.heap.size w w') : Box3 w' b t x y z := h.ofBlock (hb.block b h.lt)
theorem Box3.made (w : World) (t : TypeId) (x y z : Value) : Box3 (w.alloc (.cells #[x, y, z] t)) w.heap.size t x y z := World.rowIs_alloc w #[x, y, z] t _ (fun i hi => by
  rcases (show i = 0 ∨ i = 1 ∨ i = 2 by simp at hi; omega) with rfl | rfl | rfl <;> rfl)
theorem Box3.madeAt {w : World} {b : Nat} (hb : w.heap.size = b) (t : TypeId) (x y z : Value) : Box3 (w.alloc (.cells #[x, y, z] t)) b t x y z := by subst hb; exact Box3.made w t x y z
theorem Box3.alloc {w : World} {b : Nat} {t : TypeId} {x y z : Value} (h : Box3 w b t x y z) (o : Obj) : Box3 (w.alloc o) b t x y z := World.rowIs.alloc h o
theorem Box3.set0 {w : World} {b : Nat} {t : TypeId} {x y z : Value} (h : Box3 w b t x y z) (v : Value) : Box3 (w.setCell ⟨b, 0, none⟩ v) b t v y z := World.rowIs.congr (World.rowIs.set h 0 v) (fun i hi => by
  rcases (show i = 0 ∨ i = 1 ∨ i = 2 by omega) with rfl | rfl | rfl <;> rfl)
theorem Box3.set1 {w : World} {b : Nat} {t : TypeId} {x y z : Value} (h : Box3 w b t x y z) (v : Value) : Box3 (w.setCell ⟨b, 1, none⟩ v) b t x v z := World.rowIs.congr (World.rowIs.set h 1 v) (fun i hi => by
  rcases (show i = 0 ∨ i = 1 ∨ i = 2 by omega) with rfl | rfl | rfl <;> rfl)
theorem Box3.set2 {w : World} {b : Nat} {t : TypeId} {x y z : Value} (h : Box3 w b t x y z) (v : Value) : Box3 (w.setCell ⟨b, 2, none⟩ v) b t x y v := World.rowIs.congr (World.rowIs.set h 2 v) (fun i hi => by
  rcases (show i = 0 ∨ i = 1 ∨ i = 2 by omega) with rfl | rfl | rfl <;> rfl)
theorem Box3.other {w : World} {b : Nat} {t : TypeId} {x y z : Value} (h : Box3 w b t x y z) {a : Addr} (ha : b ≠ a.block) (v : Value) : Box3 (w.setCell a v) b t x y z := World.rowIs.setOther h ha v
theorem Box3.load {w : World} {b : Nat} {x y z : Value} (h : Box3 w b 33 x y z) : (loadVar 33 ⟨b, 0, none⟩).run Tryz.prog w = .ok (.agg #[x, y, z]) w := by
  have h0 := h.c0
  have h1 := h.c1
  have h2 := h.c2
  go_simp
def ErrAt (w : World) (g : Nat) (p : Addr) : Prop := w.cell? ⟨g, 0, none⟩ = some (.iface 200 (.pointer (some p)))
theorem ErrAt.below {w w' : World} {g : Nat} {p : Addr} (h : ErrAt w g p) (hb : Below w.heap.size w w') : ErrAt w' g p := by
  unfold ErrAt at *
  rw [hb.cell (strBlock h)]; exact h
end Go.Proofs.YtbecnaabmlkjjabGreatDoor
namespace Go.Proofs.YtbecnaabmlkjjabGreatDoor
open Go.ChangeShapes Go.WideShapes Go.ChangeAt Go.RowKit
theorem ret_cell {P : Program} {fn : Func} {p : Tmp} {ty : TypeId} {tmps : Array Value} {w : World} {b : Nat} {v : Value} {Post : Ending → World → Prop} (h : fn.results = #[.cell p ty]) (hp : tmps.getD p undef = .pointer (some ⟨b, 0, none⟩)) (hl : (loadVar ty ⟨b, 0, none⟩).run P w = .ok v w) (hq : Post (.returned v) w) : bodyPost P fn Post .ret { tmps := tmps, defers := [] } w :=
  bodyPost_ret (results_cell_one h tmps P w hp hl) rfl hq
theorem Tryz.infoStrD : (Tryz.prog.info? 9).map (fun i => (i.zero, i.size, i.bytes)) = some (some (.string ⟨#[]⟩), 1, 16) := by kernel_rfl
theorem mkStrsD (n : Nat) (hn : n ≤ 1048576) (w : World) : (Instr.makeSlice 22 (.int .i64 n) (.int .i64 n)).run Tryz.prog w = .ok (.slice (some ⟨w.heap.size, 0, none⟩) n n) (w.alloc (.cells (madeCells #[.string ⟨#[]⟩] n) 9)) :=
  run_make_row' (P := Tryz.prog) 22 9 (.string ⟨#[]⟩) 16 Tryz.underlying22 Tryz.infoStrD rfl .i64 .i64 n (by omega) (by omega) w
theorem Tryz.infoPen : (Tryz.prog.info? 85).map (fun i => (i.zero, i.size, i.bytes)) = some (some (.agg #[.int .i64 0, .string ⟨#[]⟩]), 2, 24) := by kernel_rfl
theorem mkPens (n : Nat) (hn : n ≤ 1048576) (w : World) : (Instr.makeSlice 31 (.int .i64 n) (.int .i64 n)).run Tryz.prog w = .ok (.slice (some ⟨w.heap.size, 0, none⟩) n n) (w.alloc (.cells (madeCells #[.int .i64 0, .string ⟨#[]⟩] (n * 2)) 85)) := by
  obtain ⟨i, hi, hzz⟩ := Option.map_eq_some_iff.1 Tryz.infoPen
  simp only [Prod.mk.injEq] at hzz
  obtain ⟨hz, hs, hb⟩ := hzz
  have hr := run_make (P := Tryz.prog) w 31 85 i _ Tryz.underlying31 hi hz .i64 .i64 n n (by omega) (Int.le_refl _) (by rw [hb]; omega) (by omega)
  simp only [Int.toNat_natCast, hs] at hr
  exact hr
def penC (A : Nat → Int) (D : Nat → ByteArray) (k : Nat) : Value := if k % 2 = 0 then .int .i64 (A (k / 2)) else .string (D (k / 2))
theorem penC0 (A : Nat → Int) (D : Nat → ByteArray) (i : Nat) : penC A D (i * 2) = .int .i64 (A i) := by unfold penC; rw [if_pos (by omega), show i * 2 / 2 = i from by omega]
theorem penC1 (A : Nat → Int) (D : Nat → ByteArray) (i : Nat) : penC A D (i * 2 + 1) = .string (D i) := by unfold penC; rw [if_neg (by omega), show (i * 2 + 1) / 2 = i from by omega]
def PenRow (w : World) (b n : Nat) (A : Nat → Int) (D : Nat → ByteArray) : Prop := w.rowIs b 85 (n * 2) (penC A D)
theorem PenRow.pens {w : World} {b n : Nat} {A : Nat → Int} {D : Nat → ByteArray} (h : PenRow w b n A D) : Pens w (some ⟨b, 0, none⟩) n A D := fun i hi => ⟨b, 0, rfl, by rw [Nat.zero_add, World.rowIs.cell h (by omega), penC0], by rw [Nat.zero_add, World.rowIs.cell h (by omega), penC1]⟩
theorem PenRow.made (w : World) (n : Nat) : PenRow (w.alloc (.cells (madeCells #[.int .i64 0, .string ⟨#[]⟩] (n * 2)) 85)) w.heap.size n (fun _ => 0) (fun _ => ⟨#[]⟩) :=
  ⟨_, (MapKept.heap_alloc w _).1, size_madeCells _ _, fun i hi => by
    unfold penC
    rcases (show i % 2 = 0 ∨ i % 2 = 1 by omega) with e | e <;> simp [madeCells, hi, e]⟩
theorem PenRow.put {w : World} {b n : Nat} {A : Nat → Int} {D : Nat → ByteArray} (h : PenRow w b n A D) (k : Nat) (x : Int) (s : ByteArray) : PenRow ((w.setCell ⟨b, k * 2, none⟩ (.int .i64 x)).setCell ⟨b, k * 2 + 1, none⟩ (.string s)) b n (fun i => if i = k then x else A i) (fun i => if i = k then s else D i) := by
  refine World.rowIs.congr ((World.rowIs.set h (k * 2) _).set (k * 2 + 1) _) (fun j hj => ?_)
  unfold penC
  rcases (show j % 2 = 0 ∨ j % 2 = 1 by omega) with e | e
  · rw [if_neg (by omega)]
    by_cases q : j = k * 2
    · rw [if_pos q, if_pos e, show j / 2 = k from by omega]; simp only [if_pos]
    · have : ¬ j / 2 = k := by omega
      rw [if_neg q, if_pos e, if_pos e]; simp only [if_neg this]
  · by_cases q : j = k * 2 + 1
    · rw [if_pos q, if_neg (by omega), show j / 2 = k from by omega]; simp only [if_pos]
    · have : ¬ j / 2 = k := by omega
      rw [if_neg q, if_neg (by omega), if_neg (by omega), if_neg (by omega)]; simp only [if_neg this]
theorem PenRow.ofBlock {w w' : World} {b n : Nat} {A : Nat → Int} {D : Nat → ByteArray} (h : PenRow w b n A D) (e : w'.heap[b]? = w.heap[b]?) : PenRow w' b n A D := World.rowIs.of_block h e
theorem PenRow.congr {w : World} {b n : Nat} {A A' : Nat → Int} {D D' : Nat → ByteArray} (h : PenRow w b n A D) (e : ∀ i, i < n → A i = A' i ∧ D i = D' i) : PenRow w b n A' D' :=
  World.rowIs.congr h (fun j hj => by
    unfold penC
    obtain ⟨h1, h2⟩ := e (j / 2) (by omega)
    rw [h1, h2])
set_option maxRecDepth 100000 in
set_option maxHeartbeats 1000000 in
theorem toStringS_any (a : Option Addr) (n c : Nat) (f : Nat → ByteArray) (w : World) (h : Strs w a n f) (hn : n ≤ 1048576) :
    Calls Tryz.prog 25 #[.slice a n c] w fun e w' => e = .returned (.slice (some ⟨w.heap.size, 0, none⟩) n n) ∧ w'.rowIs w.heap.size 9 n (fun i => .string (f i)) ∧ Below w.heap.size w w' := by
  have m1 := mkStrsD n hn
  rcases Nat.eq_zero_or_pos n with rfl | hpos
  · have m0 : ∀ w : World, (Instr.makeSlice 22 (.int .i64 0) (.int .i64 0)).run Tryz.prog w = .ok (.slice (some ⟨w.heap.size, 0, none⟩) 0 0) (w.alloc (.cells (madeCells #[.string ⟨#[]⟩] 0) 9)) := mkStrsD 0 (by omega)
    clear m1
    go_enter Tryz.func25, Tryz.ntmps25
    go_wp2
    go_loopw [4] (fun i wr => i = .int .i64 0 ∧ wr = w.alloc (.cells (madeCells #[.string ⟨#[]⟩] 0) 9)) (fun _ _ => 0)
    case atStart => exact ⟨rfl, rfl⟩
    case round =>
      obtain ⟨rfl, rfl⟩ := hrel
      go_wp2
      go_ret
      exact ⟨rfl, (World.rowIs_made w (.string ⟨#[]⟩) 0 9).congr (fun j hj => by omega), (Below.refl _ _).alloc (Nat.le_refl _) _⟩
  · obtain ⟨b, off, rfl, hc⟩ := h.opened hpos
    have HC : Hid (∀ i, i < n → w.cell? ⟨b, off + i, none⟩ = some (.string (f i))) := hc
    clear h hc
    go_enter Tryz.func25, Tryz.ntmps25
    go_wp2
    go_loopw [4] (fun i wr => ∃ k : Nat, k ≤ n ∧ i = .int .i64 k ∧ wr.rowIs w.heap.size 9 n (fun j => .string (if j < k then f j else ⟨#[]⟩)) ∧ Below w.heap.size w wr) (fun i _ => n - (intOf i).toNat)
    case atStart =>
      refine ⟨0, by omega, rfl, ?_, (Below.refl _ _).alloc (Nat.le_refl _) _⟩
      exact (World.rowIs_made w (.string ⟨#[]⟩) n 9).congr (fun j hj => by simp)
    case round =>
      obtain ⟨k, hk, rfl, hrow, hb⟩ := hrel
      have HR : Hid (wr.rowIs w.heap.size 9 n (fun j => .string (if j < k then f j else ⟨#[]⟩))) := hrow
      have HB : Hid (Below w.heap.size w wr) := hb
      by_cases hlt : k < n
      · have c0 := HC.out k hlt
        have c1 : wr.cell? ⟨b, off + k, none⟩ = some (.string (f k)) := by rw [hb.cell (strBlock c0)]; exact c0
        have c2 := hrow.cell hlt
        have f2 := hrow.frozen k
        have e2 : (if k < k then f k else (⟨#[]⟩ : ByteArray)) = ⟨#[]⟩ := if_neg (by omega)
        rw [e2] at c2
        have HK : Hid (∃ V, V = f k) := ⟨_, rfl⟩
        clear hrow hb c0 e2 m1
        go_wp2
        go_roundw
        case rel =>
          refine ⟨k + 1, by omega, by go_num, ?_, HB.out.setCell (by simp) _⟩
          exact (HR.out.set k _).congr (fun j hj => by
            by_cases e : j = k
            · subst e; simp
            · simp only [if_neg e]
              by_cases g : j < k
              · rw [if_pos g, if_pos (by omega)]
              · rw [if_neg g, if_neg (by omega)])
        case measure => simp [intOf]; omega
      · clear hrow hb m1
        go_wp2
        go_ret
        exact ⟨rfl, HR.out.congr (fun j hj => by rw [if_pos (by omega)]), HB.out⟩
set_option maxRecDepth 100000 in
theorem toPending_any (x : Int) (s : ByteArray) (w : World) :
    Calls Tryz.prog 51 #[.agg #[.int .i64 x, .string s]] w fun e w' => e = .returned (.agg #[.int .i64 x, .string s]) ∧ Below w.heap.size w w' := by
  go_enter Tryz.func51, Tryz.ntmps51
  go_wp2
  refine ret_cell (b := w.heap.size + 1) (v := .agg #[.int .i64 x, .string s]) Tryz.results51 rfl (by go_simp) ⟨rfl, (((Below.refl w.heap.size w).alloc (Nat.le_refl _) _).alloc (by simp) _).alloc (by simp; omega) _⟩
set_option maxRecDepth 100000 in
set_option maxHeartbeats 1000000 in
theorem toPendingS_any (a : Option Addr) (n c : Nat) (A : Nat → Int) (D : Nat → ByteArray) (w : World) (h : Pens w a n A D) (hn : n ≤ 1048576) :
    Calls Tryz.prog 26 #[.slice a n c] w fun e w' => e = .returned (.slice (some ⟨w.heap.size, 0, none⟩) n n) ∧ PenRow w' w.heap.size n A D ∧ Below w.heap.size w w' := by
  have m1 := mkPens n hn
  rcases Nat.eq_zero_or_pos n with rfl | hpos
  · have m0 : ∀ w : World, (Instr.makeSlice 31 (.int .i64 0) (.int .i64 0)).run Tryz.prog w = .ok (.slice (some ⟨w.heap.size, 0, none⟩) 0 0) (w.alloc (.cells (madeCells #[.int .i64 0, .string ⟨#[]⟩] (0 * 2)) 85)) := mkPens 0 (by omega)
    have P0 : Hid (PenRow (w.alloc (.cells (madeCells #[.int .i64 0, .string ⟨#[]⟩] (0 * 2)) 85)) w.heap.size 0 A D) := (PenRow.made w 0).congr (fun i hi => absurd hi (by omega))
    have B0 : Hid (Below w.heap.size w (w.alloc (.cells (madeCells #[.int .i64 0, .string ⟨#[]⟩] (0 * 2)) 85))) := (Below.refl _ _).alloc (Nat.le_refl _) _
    clear m1
    go_enter Tryz.func26, Tryz.ntmps26
    go_wp2
    go_loopw [4] (fun i wr => i = .int .i64 0 ∧ wr = w.alloc (.cells (madeCells #[.int .i64 0, .string ⟨#[]⟩] (0 * 2)) 85)) (fun _ _ => 0)
    case atStart => exact ⟨rfl, rfl⟩
    case round =>
      obtain ⟨rfl, rfl⟩ := hrel
      go_wp2
      go_ret
      exact ⟨rfl, P0.out, B0.out⟩
  · obtain ⟨b, off, rfl, hc⟩ := h.opened hpos
    have HC : Hid (∀ i, i < n → w.cell? ⟨b, off + i * 2, none⟩ = some (.int .i64 (A i)) ∧ w.cell? ⟨b, off + i * 2 + 1, none⟩ = some (.string (D i))) := hc
    clear h hc
    go_enter Tryz.func26, Tryz.ntmps26
    go_wp2
    go_loopw [4] (fun i wr => ∃ k : Nat, k ≤ n ∧ i = .int .i64 k ∧ PenRow wr w.heap.size n (fun j => if j < k then A j else 0) (fun j => if j < k then D j else ⟨#[]⟩) ∧ Below w.heap.size w wr) (fun i _ => n - (intOf i).toNat)
    case atStart => exact ⟨0, by omega, rfl, (PenRow.made w n).congr (fun j hj => by simp), (Below.refl _ _).alloc (Nat.le_refl _) _⟩
    case round =>
      obtain ⟨k, hk, rfl, hrow, hb⟩ := hrel
      by_cases hlt : k < n
      · obtain ⟨c0, d0⟩ := HC.out k hlt
        have c1 : wr.cell? ⟨b, off + k * 2, none⟩ = some (.int .i64 (A k)) := by rw [hb.cell (strBlock c0)]; exact c0
        have d1 : wr.cell? ⟨b, off + k * 2 + 1, none⟩ = some (.string (D k)) := by rw [hb.cell (strBlock d0)]; exact d0
        have TP : Hid (∀ w : World, Calls Tryz.prog 51 #[.agg #[.int .i64 (A k), .string (D k)]] w fun e w' => e = .returned (.agg #[.int .i64 (A k), .string (D k)]) ∧ Below w.heap.size w w') := toPending_any (A k) (D k)
        have HR : Hid (PenRow wr w.heap.size n (fun j => if j < k then A j else 0) (fun j => if j < k then D j else ⟨#[]⟩)) := hrow
        have HB : Hid (Below w.heap.size w wr) := hb
        clear hrow hb c0 d0 m1
        go_wp2_with fail
        refine (TP.out _).mono ?_
        rintro e w1 ⟨rfl, hb⟩
        have R1 := HR.out.ofBlock (hb.block _ (World.rowIs.lt HR.out))
        have g0 := World.rowIs.cell R1 (i := k * 2) (by omega)
        have g1 := World.rowIs.cell R1 (i := k * 2 + 1) (by omega)
        have f0 := World.rowIs.frozen R1 (k * 2)
        have f1 := World.rowIs.frozen R1 (k * 2 + 1)
        rw [penC0] at g0
        rw [penC1] at g1
        have H1 : Hid (PenRow w1 w.heap.size n (fun j => if j < k then A j else 0) (fun j => if j < k then D j else ⟨#[]⟩)) := R1
        have B1 : Hid (Below w.heap.size w w1) := HB.out.trans (hb.mono HB.out.size)
        generalize (if k < k then A k else 0) = u at *
        generalize (if k < k then D k else ⟨#[]⟩) = v at *
        clear R1 hb HR HB TP c1 d1
        go_wp2
        go_roundw
        case rel =>
          refine ⟨k + 1, by omega, by go_num, (H1.out.put k (A k) (D k)).congr (fun j hj => ?_), (B1.out.setCell (by simp) _).setCell (by simp) _⟩
          by_cases e : j = k
          · subst e; simp
          · simp only [if_neg e]
            by_cases g : j < k
            · rw [if_pos g, if_pos (by omega), if_pos g, if_pos (by omega)]; exact ⟨rfl, rfl⟩
            · rw [if_neg g, if_neg (by omega), if_neg g, if_neg (by omega)]; exact ⟨rfl, rfl⟩
        case measure => simp [intOf]; omega
      · have HR : Hid (PenRow wr w.heap.size n A D) := hrow.congr (fun i hi => by rw [if_pos (by omega), if_pos (by omega)]; exact ⟨rfl, rfl⟩)
        have HB : Hid (Below w.heap.size w wr) := hb
        clear hrow hb m1
        go_wp2
        go_ret
        exact ⟨rfl, HR.out, HB.out⟩
set_option maxRecDepth 100000 in
set_option maxHeartbeats 1000000 in
theorem toDisk_any (d : Dk) (a0 a1 a2 : Option Addr) (c0 c1 c2 : Nat) (w : World) (h : DiskV w d a0 a1 a2) (h0 : d.nb ≤ 1048576) (h1 : d.nc ≤ 1048576) (h2 : d.ns ≤ 1048576) :
    Calls Tryz.prog 8 #[.agg #[.slice a0 d.nb c0, .slice a1 d.nc c1, .slice a2 d.ns c2]] w fun e w' => (∃ g0 g1 g2, w.heap.size ≤ g0 ∧ g0 < g1 ∧ g1 < g2 ∧ e = .returned (.agg #[.slice (some ⟨g0, 0, none⟩) d.nb d.nb, .slice (some ⟨g1, 0, none⟩) d.nc d.nc, .slice (some ⟨g2, 0, none⟩) d.ns d.ns]) ∧ w'.rowIs g0 9 d.nb (fun i => .string (d.B i)) ∧ PenRow w' g1 d.nc d.A d.D ∧ w'.rowIs g2 9 d.ns (fun i => .string (d.S i))) ∧ Below w.heap.size w w' := by
  have T0 : Hid (∀ w : World, Strs w a0 d.nb d.B → Calls Tryz.prog 25 #[.slice a0 d.nb c0] w fun e w' => e = .returned (.slice (some ⟨w.heap.size, 0, none⟩) d.nb d.nb) ∧ w'.rowIs w.heap.size 9 d.nb (fun i => .string (d.B i)) ∧ Below w.heap.size w w') := fun w h => toStringS_any a0 d.nb c0 d.B w h h0
  have T1 : Hid (∀ w : World, Pens w a1 d.nc d.A d.D → Calls Tryz.prog 26 #[.slice a1 d.nc c1] w fun e w' => e = .returned (.slice (some ⟨w.heap.size, 0, none⟩) d.nc d.nc) ∧ PenRow w' w.heap.size d.nc d.A d.D ∧ Below w.heap.size w w') := fun w h => toPendingS_any a1 d.nc c1 d.A d.D w h h1
  have T2 : Hid (∀ w : World, Strs w a2 d.ns d.S → Calls Tryz.prog 25 #[.slice a2 d.ns c2] w fun e w' => e = .returned (.slice (some ⟨w.heap.size, 0, none⟩) d.ns d.ns) ∧ w'.rowIs w.heap.size 9 d.ns (fun i => .string (d.S i)) ∧ Below w.heap.size w w') := fun w h => toStringS_any a2 d.ns c2 d.S w h h2
  have HD : Hid (DiskV w d a0 a1 a2) := h
  clear h h0 h1 h2
  go_enter Tryz.func8, Tryz.ntmps8
  have A1 : Hid (Below w.heap.size w (((w.alloc (.cells #[.slice a0 d.nb c0, .slice a1 d.nc c1, .slice a2 d.ns c2] 25)).alloc (.cells #[.slice none 0 0, .slice none 0 0, .slice none 0 0] 33)).alloc (.cells #[.slice none 0 0, .slice none 0 0, .slice none 0 0] 33))) := (((Below.refl w.heap.size w).alloc (Nat.le_refl _) _).alloc (by simp) _).alloc (by simp; omega) _
  have sz : (((w.alloc (.cells #[.slice a0 d.nb c0, .slice a1 d.nc c1, .slice a2 d.ns c2] 25)).alloc (.cells #[.slice none 0 0, .slice none 0 0, .slice none 0 0] 33)).alloc (.cells #[.slice none 0 0, .slice none 0 0, .slice none 0 0] 33)).heap.size = w.heap.size + 3 := by simp
  have RA : Hid (Box3 (((w.alloc (.cells #[.slice a0 d.nb c0, .slice a1 d.nc c1, .slice a2 d.ns c2] 25)).alloc (.cells #[.slice none 0 0, .slice none 0 0, .slice none 0 0] 33)).alloc (.cells #[.slice none 0 0, .slice none 0 0, .slice none 0 0] 33)) w.heap.size 25 (.slice a0 d.nb c0) (.slice a1 d.nc c1) (.slice a2 d.ns c2)) := ((Box3.made w _ _ _ _).alloc _).alloc _
  have RB : Hid (Box3 (((w.alloc (.cells #[.slice a0 d.nb c0, .slice a1 d.nc c1, .slice a2 d.ns c2] 25)).alloc (.cells #[.slice none 0 0, .slice none 0 0, .slice none 0 0] 33)).alloc (.cells #[.slice none 0 0, .slice none 0 0, .slice none 0 0] 33)) (w.heap.size + 1) 33 (.slice none 0 0) (.slice none 0 0) (.slice none 0 0)) := (Box3.madeAt (by simp) _ _ _ _).alloc _
  have RC : Hid (Box3 (((w.alloc (.cells #[.slice a0 d.nb c0, .slice a1 d.nc c1, .slice a2 d.ns c2] 25)).alloc (.cells #[.slice none 0 0, .slice none 0 0, .slice none 0 0] 33)).alloc (.cells #[.slice none 0 0, .slice none 0 0, .slice none 0 0] 33)) (w.heap.size + 1 + 1) 33 (.slice none 0 0) (.slice none 0 0) (.slice none 0 0)) := Box3.madeAt (by simp) _ _ _ _
  go_wp2_with fail
  generalize (((w.alloc (.cells #[.slice a0 d.nb c0, .slice a1 d.nc c1, .slice a2 d.ns c2] 25)).alloc (.cells #[.slice none 0 0, .slice none 0 0, .slice none 0 0] 33)).alloc (.cells #[.slice none 0 0, .slice none 0 0, .slice none 0 0] 33)) = v at *
  refine (T0.out _ (HD.out.1.below A1.out)).mono ?_
  rintro e w1 ⟨rfl, hr0, hb⟩
  have hv := hb.size
  replace A1 : Hid (Below w.heap.size w w1) := A1.out.trans (hb.mono A1.out.size)
  replace RA : Hid (Box3 w1 w.heap.size 25 (.slice a0 d.nb c0) (.slice a1 d.nc c1) (.slice a2 d.ns c2)) := RA.out.below hb
  replace RB : Hid (Box3 w1 (w.heap.size + 1) 33 (.slice none 0 0) (.slice none 0 0) (.slice none 0 0)) := RB.out.below hb
  replace RC : Hid (Box3 w1 (w.heap.size + 1 + 1) 33 (.slice none 0 0) (.slice none 0 0) (.slice none 0 0)) := RC.out.below hb
  have E0 : Hid (w1.rowIs v.heap.size 9 d.nb (fun i => .string (d.B i))) := hr0
  have hg0 : w.heap.size + 3 ≤ v.heap.size := by omega
  have hg0' : v.heap.size < w1.heap.size := hr0.lt
  generalize v.heap.size = g0 at *
  have k0 := RC.out.c0
  have k1 := RC.out.fr 0
  have k2 := RA.out.c1
  clear hb hr0 T0 sz hv
  go_wp2_with fail
  have N1 : Hid (Box3 (w1.setCell ⟨w.heap.size + 1 + 1, 0, none⟩ (.slice (some ⟨g0, 0, none⟩) d.nb d.nb)) (w.heap.size + 1 + 1) 33 (.slice (some ⟨g0, 0, none⟩) d.nb d.nb) (.slice none 0 0) (.slice none 0 0)) := RC.out.set0 _
  replace RA : Hid (Box3 (w1.setCell ⟨w.heap.size + 1 + 1, 0, none⟩ (.slice (some ⟨g0, 0, none⟩) d.nb d.nb)) w.heap.size 25 (.slice a0 d.nb c0) (.slice a1 d.nc c1) (.slice a2 d.ns c2)) := RA.out.other (by simp; omega) _
  replace RB : Hid (Box3 (w1.setCell ⟨w.heap.size + 1 + 1, 0, none⟩ (.slice (some ⟨g0, 0, none⟩) d.nb d.nb)) (w.heap.size + 1) 33 (.slice none 0 0) (.slice none 0 0) (.slice none 0 0)) := RB.out.other (by simp) _
  replace E0 : Hid ((w1.setCell ⟨w.heap.size + 1 + 1, 0, none⟩ (.slice (some ⟨g0, 0, none⟩) d.nb d.nb)).rowIs g0 9 d.nb (fun i => .string (d.B i))) := E0.out.setOther (by simp; omega) _
  replace A1 : Hid (Below w.heap.size w (w1.setCell ⟨w.heap.size + 1 + 1, 0, none⟩ (.slice (some ⟨g0, 0, none⟩) d.nb d.nb))) := A1.out.setCell (by simp; omega) _
  have sz1 : (w1.setCell ⟨w.heap.size + 1 + 1, 0, none⟩ (.slice (some ⟨g0, 0, none⟩) d.nb d.nb)).heap.size = w1.heap.size := by simp
  generalize (w1.setCell ⟨w.heap.size + 1 + 1, 0, none⟩ (.slice (some ⟨g0, 0, none⟩) d.nb d.nb)) = v1 at *
  clear RC k0 k1 k2
  refine (T1.out _ (HD.out.2.1.below A1.out)).mono ?_
  rintro e w2 ⟨rfl, hr1, hb⟩
  replace A1 : Hid (Below w.heap.size w w2) := A1.out.trans (hb.mono A1.out.size)
  replace RA : Hid (Box3 w2 w.heap.size 25 (.slice a0 d.nb c0) (.slice a1 d.nc c1) (.slice a2 d.ns c2)) := RA.out.below hb
  replace RB : Hid (Box3 w2 (w.heap.size + 1) 33 (.slice none 0 0) (.slice none 0 0) (.slice none 0 0)) := RB.out.below hb
  replace N1 : Hid (Box3 w2 (w.heap.size + 1 + 1) 33 (.slice (some ⟨g0, 0, none⟩) d.nb d.nb) (.slice none 0 0) (.slice none 0 0)) := N1.out.below hb
  replace E0 : Hid (w2.rowIs g0 9 d.nb (fun i => .string (d.B i))) := E0.out.of_block (hb.block _ E0.out.lt)
  have E1 : Hid (PenRow w2 v1.heap.size d.nc d.A d.D) := hr1
  have hg1 : g0 < v1.heap.size := by omega
  have hg1' : v1.heap.size < w2.heap.size := World.rowIs.lt hr1
  generalize v1.heap.size = g1 at *
  have k0 := N1.out.c1
  have k1 := N1.out.fr 1
  have k2 := RA.out.c2
  clear hb hr1 T1 sz1
  go_wp2_with fail
  have N2 : Hid (Box3 (w2.setCell ⟨w.heap.size + 1 + 1, 1, none⟩ (.slice (some ⟨g1, 0, none⟩) d.nc d.nc)) (w.heap.size + 1 + 1) 33 (.slice (some ⟨g0, 0, none⟩) d.nb d.nb) (.slice (some ⟨g1, 0, none⟩) d.nc d.nc) (.slice none 0 0)) := N1.out.set1 _
  replace RB : Hid (Box3 (w2.setCell ⟨w.heap.size + 1 + 1, 1, none⟩ (.slice (some ⟨g1, 0, none⟩) d.nc d.nc)) (w.heap.size + 1) 33 (.slice none 0 0) (.slice none 0 0) (.slice none 0 0)) := RB.out.other (by simp) _
  replace E0 : Hid ((w2.setCell ⟨w.heap.size + 1 + 1, 1, none⟩ (.slice (some ⟨g1, 0, none⟩) d.nc d.nc)).rowIs g0 9 d.nb (fun i => .string (d.B i))) := E0.out.setOther (by simp; omega) _
  replace E1 : Hid (PenRow (w2.setCell ⟨w.heap.size + 1 + 1, 1, none⟩ (.slice (some ⟨g1, 0, none⟩) d.nc d.nc)) g1 d.nc d.A d.D) := World.rowIs.setOther E1.out (by simp; omega) _
  replace A1 : Hid (Below w.heap.size w (w2.setCell ⟨w.heap.size + 1 + 1, 1, none⟩ (.slice (some ⟨g1, 0, none⟩) d.nc d.nc))) := A1.out.setCell (by simp; omega) _
  have sz2 : (w2.setCell ⟨w.heap.size + 1 + 1, 1, none⟩ (.slice (some ⟨g1, 0, none⟩) d.nc d.nc)).heap.size = w2.heap.size := by simp
  generalize (w2.setCell ⟨w.heap.size + 1 + 1, 1, none⟩ (.slice (some ⟨g1, 0, none⟩) d.nc d.nc)) = v2 at *
  clear N1 RA k0 k1 k2
  refine (T2.out _ (HD.out.2.2.below A1.out)).mono ?_
  rintro e w3 ⟨rfl, hr2, hb⟩
  replace A1 : Hid (Below w.heap.size w w3) := A1.out.trans (hb.mono A1.out.size)
  replace RB : Hid (Box3 w3 (w.heap.size + 1) 33 (.slice none 0 0) (.slice none 0 0) (.slice none 0 0)) := RB.out.below hb
  replace N2 : Hid (Box3 w3 (w.heap.size + 1 + 1) 33 (.slice (some ⟨g0, 0, none⟩) d.nb d.nb) (.slice (some ⟨g1, 0, none⟩) d.nc d.nc) (.slice none 0 0)) := N2.out.below hb
  replace E0 : Hid (w3.rowIs g0 9 d.nb (fun i => .string (d.B i))) := E0.out.of_block (hb.block _ E0.out.lt)
  replace E1 : Hid (PenRow w3 g1 d.nc d.A d.D) := E1.out.ofBlock (hb.block _ (World.rowIs.lt E1.out))
  have E2 : Hid (w3.rowIs v2.heap.size 9 d.ns (fun i => .string (d.S i))) := hr2
  have hg2 : g1 < v2.heap.size := by omega
  generalize v2.heap.size = g2 at *
  have k0 := N2.out.c2
  have k1 := N2.out.fr 2
  have k3 := N2.out.c0
  have k4 := N2.out.c1
  have k5 := RB.out.c0
  have k6 := RB.out.c1
  have k7 := RB.out.c2
  have k8 := RB.out.fr 0
  have k9 := RB.out.fr 1
  have k10 := RB.out.fr 2
  clear hb hr2 T2 sz2 HD
  go_wp2
  have F0 : ((((w3.setCell ⟨w.heap.size + 1 + 1, 2, none⟩ (.slice (some ⟨g2, 0, none⟩) d.ns d.ns)).setCell ⟨w.heap.size + 1, 0, none⟩ (.slice (some ⟨g0, 0, none⟩) d.nb d.nb)).setCell ⟨w.heap.size + 1, 1, none⟩ (.slice (some ⟨g1, 0, none⟩) d.nc d.nc)).setCell ⟨w.heap.size + 1, 2, none⟩ (.slice (some ⟨g2, 0, none⟩) d.ns d.ns)).rowIs g0 9 d.nb (fun i => .string (d.B i)) := (((E0.out.setOther (by simp; omega) _).setOther (by simp; omega) _).setOther (by simp; omega) _).setOther (by simp; omega) _
  have F1 : PenRow ((((w3.setCell ⟨w.heap.size + 1 + 1, 2, none⟩ (.slice (some ⟨g2, 0, none⟩) d.ns d.ns)).setCell ⟨w.heap.size + 1, 0, none⟩ (.slice (some ⟨g0, 0, none⟩) d.nb d.nb)).setCell ⟨w.heap.size + 1, 1, none⟩ (.slice (some ⟨g1, 0, none⟩) d.nc d.nc)).setCell ⟨w.heap.size + 1, 2, none⟩ (.slice (some ⟨g2, 0, none⟩) d.ns d.ns)) g1 d.nc d.A d.D := (((World.rowIs.setOther E1.out (by simp; omega) _).setOther (by simp; omega) _).setOther (by simp; omega) _).setOther (by simp; omega) _
  have F2 : ((((w3.setCell ⟨w.heap.size + 1 + 1, 2, none⟩ (.slice (some ⟨g2, 0, none⟩) d.ns d.ns)).setCell ⟨w.heap.size + 1, 0, none⟩ (.slice (some ⟨g0, 0, none⟩) d.nb d.nb)).setCell ⟨w.heap.size + 1, 1, none⟩ (.slice (some ⟨g1, 0, none⟩) d.nc d.nc)).setCell ⟨w.heap.size + 1, 2, none⟩ (.slice (some ⟨g2, 0, none⟩) d.ns d.ns)).rowIs g2 9 d.ns (fun i => .string (d.S i)) := (((E2.out.setOther (by simp; omega) _).setOther (by simp; omega) _).setOther (by simp; omega) _).setOther (by simp; omega) _
  have FB : Box3 ((((w3.setCell ⟨w.heap.size + 1 + 1, 2, none⟩ (.slice (some ⟨g2, 0, none⟩) d.ns d.ns)).setCell ⟨w.heap.size + 1, 0, none⟩ (.slice (some ⟨g0, 0, none⟩) d.nb d.nb)).setCell ⟨w.heap.size + 1, 1, none⟩ (.slice (some ⟨g1, 0, none⟩) d.nc d.nc)).setCell ⟨w.heap.size + 1, 2, none⟩ (.slice (some ⟨g2, 0, none⟩) d.ns d.ns)) (w.heap.size + 1) 33 (.slice (some ⟨g0, 0, none⟩) d.nb d.nb) (.slice (some ⟨g1, 0, none⟩) d.nc d.nc) (.slice (some ⟨g2, 0, none⟩) d.ns d.ns) := (((RB.out.other (by simp) _).set0 _).set1 _).set2 _
  have FA : Below w.heap.size w ((((w3.setCell ⟨w.heap.size + 1 + 1, 2, none⟩ (.slice (some ⟨g2, 0, none⟩) d.ns d.ns)).setCell ⟨w.heap.size + 1, 0, none⟩ (.slice (some ⟨g0, 0, none⟩) d.nb d.nb)).setCell ⟨w.heap.size + 1, 1, none⟩ (.slice (some ⟨g1, 0, none⟩) d.nc d.nc)).setCell ⟨w.heap.size + 1, 2, none⟩ (.slice (some ⟨g2, 0, none⟩) d.ns d.ns)) := (((A1.out.setCell (by simp; omega) _).setCell (by simp) _).setCell (by simp) _).setCell (by simp) _
  exact ret_cell (b := w.heap.size + 1) Tryz.results8 rfl FB.load ⟨⟨g0, g1, g2, by omega, by omega, hg2, rfl, F0, F1, F2⟩, FA⟩
set_option maxRecDepth 100000 in
set_option maxHeartbeats 1000000 in
theorem szStringS_any (a : Option Addr) (n c : Nat) (f : Nat → ByteArray) (x : Int) (w : World) (h : Strs w a n f) (hx0 : 0 ≤ x) (hx : x ≤ 1048576) (hn : n ≤ maxLen) (hf : ∀ i, i < n → (f i).size ≤ maxLen) :
    Calls Tryz.prog 21 #[.slice a n c, .int .i64 x] w fun e w' => (∃ y : Int, e = .returned (.int .i64 y) ∧ y ≤ 1048576 ∧ (0 ≤ y → n ≤ 1048576)) ∧ w = w' := by
  unfold maxLen at hn hf
  by_cases h0 : (n : Int) ≤ x
  · obtain ⟨y, hy⟩ : ∃ y, y = x - (n : Int) := ⟨_, rfl⟩
    have ey : x - (n : Int) = y := hy.symm
    have e0 : ¬ y < 0 := by omega
    have e1 : n ≤ 1048576 := by omega
    have ha : n = 0 ∨ ∃ b off, a = some ⟨b, off, none⟩ ∧ ∀ i, i < n → w.cell? ⟨b, off + i, none⟩ = some (.string (f i)) := by
      rcases Nat.eq_zero_or_pos n with rfl | hpos
      · exact .inl rfl
      · exact .inr (h.opened hpos)
    have HA : Hid (n = 0 ∨ ∃ b off, a = some ⟨b, off, none⟩ ∧ ∀ i, i < n → w.cell? ⟨b, off + i, none⟩ = some (.string (f i))) := ha
    have HF : Hid (∀ i, i < n → (f i).size ≤ 2 ^ 63 - 1) := hf
    have y0 : y ≤ 1048576 := by omega
    clear h ha hf hy
    go_enter Tryz.func21, Tryz.ntmps21
    go_wp2
    go_loopw [1, 5] (fun l i wr => ∃ (k : Nat) (z : Int), k ≤ n ∧ i = .int .i64 k ∧ l = .int .i64 z ∧ 0 ≤ z ∧ z ≤ 1048576 ∧ w = wr) (fun _ i _ => n - (intOf i).toNat)
    case atStart => exact ⟨0, y, by omega, rfl, rfl, by omega, by omega, rfl⟩
    case round =>
      obtain ⟨k, z, hk, rfl, rfl, hz, hz2, rfl⟩ := hrel
      by_cases hlt : k < n
      · rcases HA.out with h1 | ⟨b, off, rfl, hc⟩
        · omega
        · have c1 := hc k hlt
          have hs := HF.out k hlt
          have hlt' : (k : Int) < (n : Int) := by omega
          generalize f k = V at *
          clear hc HA
          by_cases hz3 : z - (V.size : Int) < 0
          · have x1 : z - (V.size : Int) < 0 := hz3
            have x2 : IntKind.i64.wrap (z - (V.size : Int)) = z - (V.size : Int) := IntWalk.i64_in _ (by omega)
            go_wp2
            go_ret
            exact ⟨⟨-1, rfl, by omega, by omega⟩, rfl⟩
          · have x1 : ¬ z - (V.size : Int) < 0 := hz3
            have x2 : IntKind.i64.wrap (z - (V.size : Int)) = z - (V.size : Int) := IntWalk.i64_in _ (by omega)
            go_wp2
            go_roundw
            case rel => exact ⟨k + 1, z - (V.size : Int), by omega, by go_num, rfl, by omega, by omega, trivial⟩
            case measure => simp [intOf]; omega
      · have hlt' : ¬ (k : Int) < (n : Int) := by omega
        clear HA
        go_wp2
        go_ret
        exact ⟨⟨z, rfl, hz2⟩, rfl⟩
  · have e0 : x - (n : Int) < 0 := by omega
    go_enter Tryz.func21, Tryz.ntmps21
    go_wp2
    go_ret
    exact ⟨⟨-1, rfl, by omega, by omega⟩, rfl⟩
set_option maxRecDepth 100000 in
theorem szPending_any (a : Int) (s : ByteArray) (x : Int) (w : World) (hx0 : 0 ≤ x) (hx : x ≤ 1048576) (hs : s.size ≤ maxLen) :
    Calls Tryz.prog 47 #[.agg #[.int .i64 a, .string s], .int .i64 x] w fun e w' => (∃ y : Int, e = .returned (.int .i64 y) ∧ -1 ≤ y ∧ y ≤ 1048576) ∧ Below w.heap.size w w' := by
  unfold maxLen at hs
  have x2 : IntKind.i64.wrap (x - (s.size : Int)) = x - (s.size : Int) := IntWalk.i64_in _ (by omega)
  by_cases h0 : x - (s.size : Int) < 0
  · go_enter Tryz.func47, Tryz.ntmps47
    go_wp2
    go_ret
    exact ⟨⟨-1, rfl, by omega, by omega⟩, (Below.refl w.heap.size w).alloc (Nat.le_refl _) _⟩
  · go_enter Tryz.func47, Tryz.ntmps47
    go_wp2
    go_ret
    exact ⟨⟨_, rfl, by omega, by omega⟩, (Below.refl w.heap.size w).alloc (Nat.le_refl _) _⟩
set_option maxRecDepth 100000 in
set_option maxHeartbeats 1000000 in
theorem szPendingS_any (a : Option Addr) (n c : Nat) (A : Nat → Int) (D : Nat → ByteArray) (x : Int) (w : World) (h : Pens w a n A D) (hx0 : 0 ≤ x) (hx : x ≤ 1048576) (hn : n ≤ maxLen) (hf : ∀ i, i < n → (D i).size ≤ maxLen) :
    Calls Tryz.prog 22 #[.slice a n c, .int .i64 x] w fun e w' => (∃ y : Int, e = .returned (.int .i64 y) ∧ y ≤ 1048576 ∧ (0 ≤ y → n ≤ 1048576)) ∧ Below w.heap.size w w' := by
  unfold maxLen at hn
  by_cases h0 : (n : Int) ≤ x
  · obtain ⟨y, hy⟩ : ∃ y, y = x - (n : Int) := ⟨_, rfl⟩
    have ey : x - (n : Int) = y := hy.symm
    have e0 : ¬ y < 0 := by omega
    have e1 : n ≤ 1048576 := by omega
    have HA : Hid (Pens w a n A D) := h
    have HF : Hid (∀ i, i < n → (D i).size ≤ maxLen) := hf
    have y0 : y ≤ 1048576 := by omega
    clear h hf hy
    go_enter Tryz.func22, Tryz.ntmps22
    go_wp2
    go_loopw [1, 5] (fun l i wr => ∃ (k : Nat) (z : Int), k ≤ n ∧ i = .int .i64 k ∧ l = .int .i64 z ∧ 0 ≤ z ∧ z ≤ 1048576 ∧ Below w.heap.size w wr) (fun _ i _ => n - (intOf i).toNat)
    case atStart => exact ⟨0, y, by omega, rfl, rfl, by omega, by omega, Below.refl _ _⟩
    case round =>
      obtain ⟨k, z, hk, rfl, rfl, hz, hz2, hb⟩ := hrel
      have HB : Hid (Below w.heap.size w wr) := hb
      by_cases hlt : k < n
      · obtain ⟨b, off, rfl, hc⟩ := (HA.out.below hb).opened (by omega)
        obtain ⟨c1, c2⟩ := hc k hlt
        have hlt' : (k : Int) < (n : Int) := by omega
        have SP : Hid (∀ w : World, Calls Tryz.prog 47 #[.agg #[.int .i64 (A k), .string (D k)], .int .i64 z] w fun e w' => (∃ y : Int, e = .returned (.int .i64 y) ∧ -1 ≤ y ∧ y ≤ 1048576) ∧ Below w.heap.size w w') := fun w => szPending_any _ _ z w hz hz2 (HF.out k hlt)
        clear hc hb
        go_wp2_with fail
        refine (SP.out _).mono ?_
        rintro e w1 ⟨⟨y1, rfl, hy1, hy2⟩, hb⟩
        have B1 : Hid (Below w.heap.size w w1) := HB.out.trans (hb.mono HB.out.size)
        clear hb HB SP c1 c2
        by_cases hz3 : y1 < 0
        · go_wp2
          go_ret
          exact ⟨⟨-1, rfl, by omega, by omega⟩, B1.out⟩
        · go_wp2
          go_roundw
          case rel => exact ⟨k + 1, y1, by omega, by go_num, rfl, by omega, by omega, B1.out⟩
          case measure => simp [intOf]; omega
      · have hlt' : ¬ (k : Int) < (n : Int) := by omega
        clear hb
        go_wp2
        go_ret
        exact ⟨⟨z, rfl, hz2⟩, HB.out⟩
  · have e0 : x - (n : Int) < 0 := by omega
    go_enter Tryz.func22, Tryz.ntmps22
    go_wp2
    go_ret
    exact ⟨⟨-1, rfl, by omega, by omega⟩, Below.refl _ _⟩
set_option maxRecDepth 100000 in
theorem eqPending_yes (x : Int) (s : ByteArray) (w : World) :
    Calls Tryz.prog 55 #[.agg #[.int .i64 x, .string s], .agg #[.int .i64 x, .string s]] w fun e w' => e = .returned (.bool true) ∧ Below w.heap.size w w' := by
  have e1 : (x != x) = false := by simp
  go_enter Tryz.func55, Tryz.ntmps55
  go_wp2
  go_ret
  exact ⟨rfl, ((Below.refl w.heap.size w).alloc (Nat.le_refl _) _).alloc (by simp) _⟩
set_option maxRecDepth 100000 in
set_option maxHeartbeats 1000000 in
theorem eqPendingS_yes (a b : Option Addr) (n c d : Nat) (A : Nat → Int) (D : Nat → ByteArray) (A' : Nat → Int) (D' : Nat → ByteArray) (w : World) (h : Pens w a n A D) (h' : Pens w b n A' D') (he : ∀ i, i < n → A i = A' i ∧ D i = D' i) (hn : n ≤ 1048576) :
    Calls Tryz.prog 30 #[.slice a n c, .slice b n d] w fun e w' => e = .returned (.bool true) ∧ Below w.heap.size w w' := by
  have HA : Hid (Pens w a n A D) := h
  have HA' : Hid (Pens w b n A D) := fun i hi => by obtain ⟨e1, e2⟩ := he i hi; rw [e1, e2]; exact h' i hi
  have hne : ((n : Int) != (n : Int)) = false := by simp
  clear h h' he
  go_enter Tryz.func30, Tryz.ntmps30
  go_wp2
  go_loopw [5] (fun i wr => ∃ k : Nat, k ≤ n ∧ i = .int .i64 k ∧ Below w.heap.size w wr) (fun i _ => n - (intOf i).toNat)
  case atStart => exact ⟨0, by omega, rfl, Below.refl _ _⟩
  case round =>
    obtain ⟨k, hk, rfl, hb⟩ := hrel
    have HB : Hid (Below w.heap.size w wr) := hb
    by_cases hlt : k < n
    · obtain ⟨b1, o1, rfl, hc⟩ := (HA.out.below hb).opened (by omega)
      obtain ⟨b2, o2, rfl, hc'⟩ := (HA'.out.below hb).opened (by omega)
      obtain ⟨c1, c2⟩ := hc k hlt
      obtain ⟨c3, c4⟩ := hc' k hlt
      have hlt' : (k : Int) < (n : Int) := by omega
      have EP : Hid (∀ w : World, Calls Tryz.prog 55 #[.agg #[.int .i64 (A k), .string (D k)], .agg #[.int .i64 (A k), .string (D k)]] w fun e w' => e = .returned (.bool true) ∧ Below w.heap.size w w') := eqPending_yes (A k) (D k)
      clear hc hc' hb
      go_wp2_with fail
      go_region_with (go_at_call 55; refine (EP.out _).mono ?_; rintro e w' ⟨rfl, hb⟩)
      all_goals
        have B1 : Hid (Below w.heap.size w w') := HB.out.drew.trans (hb.mono HB.out.size)
        clear hb HB EP c1 c2 c3 c4
        dsimp only [Act.put]
        go_wp2
        go_roundw
        case rel => exact ⟨k + 1, by omega, by go_num, B1.out⟩
        case measure => simp [intOf]; omega
    · go_wp2
      go_ret
      exact ⟨rfl, HB.out⟩
set_option maxRecDepth 100000 in
set_option maxHeartbeats 1000000 in
theorem eqDisk_yes (x y : Dk) (a0 a1 a2 b0 b1 b2 : Option Addr) (c0 c1 c2 d0 d1 d2 : Nat) (w : World) (h : DiskV w x a0 a1 a2) (h' : DiskV w y b0 b1 b2) (e0 : x.nb = y.nb) (e1 : x.nc = y.nc) (e2 : x.ns = y.ns) (eB : ∀ i, i < x.nb → x.B i = y.B i) (eC : ∀ i, i < x.nc → x.A i = y.A i ∧ x.D i = y.D i) (eS : ∀ i, i < x.ns → x.S i = y.S i) (l0 : x.nb ≤ 1048576) (l1 : x.nc ≤ 1048576) (l2 : x.ns ≤ 1048576) :
    Calls Tryz.prog 11 #[.agg #[.slice a0 x.nb c0, .slice a1 x.nc c1, .slice a2 x.ns c2], .agg #[.slice b0 y.nb d0, .slice b1 y.nc d1, .slice b2 y.ns d2]] w fun e w' => e = .returned (.bool true) ∧ Below w.heap.size w w' := by
  have Q0 : Hid (∀ w : World, Strs w a0 x.nb x.B → Strs w b0 y.nb y.B → Calls Tryz.prog 29 #[.slice a0 x.nb c0, .slice b0 y.nb d0] w fun e w' => e = .returned (.bool true) ∧ ∃ q, w' = w.drewN q) := fun w k k' => by rw [← e0] at k' ⊢; exact eqStringS_yes a0 b0 x.nb c0 d0 x.B y.B w k k' eB l0
  have Q1 : Hid (∀ w : World, Pens w a1 x.nc x.A x.D → Pens w b1 y.nc y.A y.D → Calls Tryz.prog 30 #[.slice a1 x.nc c1, .slice b1 y.nc d1] w fun e w' => e = .returned (.bool true) ∧ Below w.heap.size w w') := fun w k k' => by rw [← e1] at k' ⊢; exact eqPendingS_yes a1 b1 x.nc c1 d1 x.A x.D y.A y.D w k k' eC l1
  have Q2 : Hid (∀ w : World, Strs w a2 x.ns x.S → Strs w b2 y.ns y.S → Calls Tryz.prog 29 #[.slice a2 x.ns c2, .slice b2 y.ns d2] w fun e w' => e = .returned (.bool true) ∧ ∃ q, w' = w.drewN q) := fun w k k' => by rw [← e2] at k' ⊢; exact eqStringS_yes a2 b2 x.ns c2 d2 x.S y.S w k k' eS l2
  have HX : Hid (DiskV w x a0 a1 a2) := h
  have HY : Hid (DiskV w y b0 b1 b2) := h'
  clear h h' e0 e1 e2 eB eC eS l0 l1 l2
  have A1 : Hid (Below w.heap.size w ((w.alloc (.cells #[.slice a0 x.nb c0, .slice a1 x.nc c1, .slice a2 x.ns c2] 33)).alloc (.cells #[.slice b0 y.nb d0, .slice b1 y.nc d1, .slice b2 y.ns d2] 33))) := ((Below.refl w.heap.size w).alloc (Nat.le_refl _) _).alloc (by simp) _
  have RA : Hid (Box3 ((w.alloc (.cells #[.slice a0 x.nb c0, .slice a1 x.nc c1, .slice a2 x.ns c2] 33)).alloc (.cells #[.slice b0 y.nb d0, .slice b1 y.nc d1, .slice b2 y.ns d2] 33)) w.heap.size 33 (.slice a0 x.nb c0) (.slice a1 x.nc c1) (.slice a2 x.ns c2)) := (Box3.made w _ _ _ _).alloc _
  have RB : Hid (Box3 ((w.alloc (.cells #[.slice a0 x.nb c0, .slice a1 x.nc c1, .slice a2 x.ns c2] 33)).alloc (.cells #[.slice b0 y.nb d0, .slice b1 y.nc d1, .slice b2 y.ns d2] 33)) (w.heap.size + 1) 33 (.slice b0 y.nb d0) (.slice b1 y.nc d1) (.slice b2 y.ns d2)) := Box3.madeAt (by simp) _ _ _ _
  go_enter Tryz.func11, Tryz.ntmps11
  go_wp2_with fail
  generalize ((w.alloc (.cells #[.slice a0 x.nb c0, .slice a1 x.nc c1, .slice a2 x.ns c2] 33)).alloc (.cells #[.slice b0 y.nb d0, .slice b1 y.nc d1, .slice b2 y.ns d2] 33)) = v at *
  refine (Q0.out _ (HX.out.1.below A1.out) (HY.out.1.below A1.out)).mono ?_
  rintro e w1 ⟨rfl, q, rfl⟩
  have hb : Below v.heap.size v (v.drewN q) := ⟨rfl, rfl, rfl, Nat.le_refl _, fun _ _ => rfl⟩
  generalize v.drewN q = v1 at *
  replace A1 : Hid (Below w.heap.size w v1) := A1.out.trans (hb.mono A1.out.size)
  replace RA : Hid (Box3 v1 w.heap.size 33 (.slice a0 x.nb c0) (.slice a1 x.nc c1) (.slice a2 x.ns c2)) := RA.out.below hb
  replace RB : Hid (Box3 v1 (w.heap.size + 1) 33 (.slice b0 y.nb d0) (.slice b1 y.nc d1) (.slice b2 y.ns d2)) := RB.out.below hb
  have k1 := RA.out.c1
  have k2 := RB.out.c1
  clear hb Q0
  go_wp2_with fail
  refine (Q1.out _ (HX.out.2.1.below A1.out) (HY.out.2.1.below A1.out)).mono ?_
  rintro e v2 ⟨rfl, hb⟩
  replace A1 : Hid (Below w.heap.size w v2) := A1.out.trans (hb.mono A1.out.size)
  replace RA : Hid (Box3 v2 w.heap.size 33 (.slice a0 x.nb c0) (.slice a1 x.nc c1) (.slice a2 x.ns c2)) := RA.out.below hb
  replace RB : Hid (Box3 v2 (w.heap.size + 1) 33 (.slice b0 y.nb d0) (.slice b1 y.nc d1) (.slice b2 y.ns d2)) := RB.out.below hb
  clear hb Q1 k1 k2
  have k1 := RA.out.c2
  have k2 := RB.out.c2
  go_wp2_with fail
  refine (Q2.out _ (HX.out.2.2.below A1.out) (HY.out.2.2.below A1.out)).mono ?_
  rintro e w1 ⟨rfl, q, rfl⟩
  have hb : Below v2.heap.size v2 (v2.drewN q) := ⟨rfl, rfl, rfl, Nat.le_refl _, fun _ _ => rfl⟩
  generalize v2.drewN q = v3 at *
  replace A1 : Hid (Below w.heap.size w v3) := A1.out.trans (hb.mono A1.out.size)
  clear hb Q2 k1 k2 RA RB
  go_wp2
  go_ret
  exact ⟨rfl, A1.out⟩
end Go.Proofs.YtbecnaabmlkjjabGreatDoor
