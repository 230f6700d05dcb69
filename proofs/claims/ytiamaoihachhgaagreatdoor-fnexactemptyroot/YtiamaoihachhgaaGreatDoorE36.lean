/-
  Texts of the proof, joined: Box4, DiskOk, DiskOkI, MapI, Drive.
-/
import Derived.Test.YtiamaoihachhgaaGreatDoorE02
import Derived.Test.YtiamaoihachhgaaGreatDoorE15
import Derived.Test.YtiamaoihachhgaaGreatDoorE14
import Derived.Maps.Own
import Derived.Maps.RangeRun
namespace Go.Proofs.YtiamaoihachhgaaGreatDoor
open Go.ChangeShapes Go.WideShapes Go.ChangeAt Go.RowKit
def Box4 (w : World) (q : Nat) (t : TypeId) (x y z m : Value) : Prop := w.rowIs q t 4 (fun i => if i = 0 then x else if i = 1 then y else if i = 2 then z else m)
theorem Box4.c0 {w : World} {b : Nat} {t : TypeId} {x y z m : Value} (h : Box4 w b t x y z m) : w.cell? ⟨b, 0, none⟩ = some x := World.rowIs.cell h (i := 0) (by omega)
theorem Box4.c3 {w : World} {b : Nat} {t : TypeId} {x y z m : Value} (h : Box4 w b t x y z m) : w.cell? ⟨b, 3, none⟩ = some m := World.rowIs.cell h (i := 3) (by omega)
theorem Box4.lt {w : World} {b : Nat} {t : TypeId} {x y z m : Value} (h : Box4 w b t x y z m) : b < w.heap.size := World.rowIs.lt h
theorem Box4.ofBlock {w w' : World} {b : Nat} {t : TypeId} {x y z m : Value} (h : Box4 w b t x y z m) (e : w'.heap[b]? = w.heap[b]?) : Box4 w' b t x y z m := World.rowIs.of_block h e
theorem Box4.below {w w' : World} {b : Nat} {t : TypeId} {x y z m : Value} (h : Box4 w b t x y z m) (hb : Below w.heap.size w w') : Box4 w' b t x y z m := h.ofBlock (hb.block b h.lt)
theorem Box4.onlyB {w w' : World} {b g : Nat} {t : TypeId} {x y z m : Value} (h : Box4 w b t x y z m) (ho : OnlyB g w w') (hne : b ≠ g) : Box4 w' b t x y z m := h.ofBlock (ho.block b h.lt hne)
theorem Box4.madeAt {w : World} {b : Nat} (hb : w.heap.size = b) (t : TypeId) (x y z m : Value) : Box4 (w.alloc (.cells #[x, y, z, m] t)) b t x y z m := by
 subst hb
 exact World.rowIs_alloc w #[x, y, z, m] t _ (fun i hi => by
  rcases (show i = 0 ∨ i = 1 ∨ i = 2 ∨ i = 3 by simp at hi; omega) with rfl | rfl | rfl | rfl <;> rfl)
end Go.Proofs.YtiamaoihachhgaaGreatDoor
namespace Go.Proofs.YtiamaoihachhgaaGreatDoor
open Go.ChangeShapes Go.WideShapes Go.ChangeAt Go.RowKit
set_option maxRecDepth 100000 in
theorem placeFault_ok (n m k : Nat) (a0 a1 a2 : Option Addr) (c0 c1 c2 : Nat) (x : Int) (s : ByteArray) (hx : 0 ≤ x) (hx' : x < n) (hs : s.size ≤ 200) (w : World) :
  Calls Tryz.prog 86 #[.agg #[.slice a0 n c0, .slice a1 m c1, .slice a2 k c2], .int .i64 x, .string s] w fun e w' => e = .returned .nilIface ∧ Below w.heap.size w w' := by
 have e1 : ¬ x < 0 := by omega
 have e2 : ¬ (n : Int) ≤ x := by omega
 have e3 : ¬ (200 : Int) < s.size := by omega
 go_enter Tryz.func86, Tryz.ntmps86
 go_wp2
 go_ret
 exact ⟨rfl, (Below.refl w.heap.size w).alloc (Nat.le_refl _) _⟩
set_option maxRecDepth 100000 in
theorem placeFault_range (n m k : Nat) (a0 a1 a2 : Option Addr) (c0 c1 c2 : Nat) (x : Int) (s : ByteArray) (hx : ¬ (0 ≤ x ∧ x < n)) (p : Addr) (w : World) (hp : ErrAt w 1 p) :
  Calls Tryz.prog 86 #[.agg #[.slice a0 n c0, .slice a1 m c1, .slice a2 k c2], .int .i64 x, .string s] w fun e w' => e = .returned (.iface 273 (.pointer (some p))) ∧ Below w.heap.size w w' := by
 have HB : Hid (Below w.heap.size w (w.alloc (.cells #[.slice a0 n c0, .slice a1 m c1, .slice a2 k c2] 29))) := (Below.refl w.heap.size w).alloc (Nat.le_refl _) _
 have hp1 : (w.alloc (.cells #[.slice a0 n c0, .slice a1 m c1, .slice a2 k c2] 29)).cell? ⟨1, 0, none⟩ = some (.iface 273 (.pointer (some p))) := hp.below HB.out
 by_cases e1 : x < 0
 ·go_enter Tryz.func86, Tryz.ntmps86
  go_wp2
  go_ret
  exact ⟨rfl, HB.out⟩
 ·have e2 : (n : Int) ≤ x := by omega
  go_enter Tryz.func86, Tryz.ntmps86
  go_wp2
  go_ret
  exact ⟨rfl, HB.out⟩
set_option maxRecDepth 100000 in
theorem placeFault_long (n m k : Nat) (a0 a1 a2 : Option Addr) (c0 c1 c2 : Nat) (x : Int) (s : ByteArray) (hx : 0 ≤ x) (hx' : x < n) (hs : 200 < s.size) (p : Addr) (w : World) (hp : ErrAt w 2 p) :
  Calls Tryz.prog 86 #[.agg #[.slice a0 n c0, .slice a1 m c1, .slice a2 k c2], .int .i64 x, .string s] w fun e w' => e = .returned (.iface 273 (.pointer (some p))) ∧ Below w.heap.size w w' := by
 have HB : Hid (Below w.heap.size w (w.alloc (.cells #[.slice a0 n c0, .slice a1 m c1, .slice a2 k c2] 29))) := (Below.refl w.heap.size w).alloc (Nat.le_refl _) _
 have hp1 : (w.alloc (.cells #[.slice a0 n c0, .slice a1 m c1, .slice a2 k c2] 29)).cell? ⟨2, 0, none⟩ = some (.iface 273 (.pointer (some p))) := hp.below HB.out
 have e1 : ¬ x < 0 := by omega
 have e2 : ¬ (n : Int) ≤ x := by omega
 have e3 : (200 : Int) < s.size := by omega
 go_enter Tryz.func86, Tryz.ntmps86
 go_wp2
 go_ret
 exact ⟨rfl, HB.out⟩
set_option maxRecDepth 100000 in
set_option maxHeartbeats 1000000 in
theorem blocksFit_any (a : Option Addr) (n c : Nat) (f : Nat → ByteArray) (r : Bool) (hr : r = true ↔ ∀ i, i < n → (f i).size ≤ 200) (hn : n ≤ 4096) (w : World) (h : Strs w a n f) :
  Calls Tryz.prog 87 #[.slice a n c] w fun e w' => e = .returned (.bool r) ∧ w = w' := by
 have HS : Hid (Strs w a n f) := h
 have HR : Hid (r = true ↔ ∀ i, i < n → (f i).size ≤ 200) := hr
 clear h hr
 go_enter Tryz.func87, Tryz.ntmps87
 go_wp2
 go_loopw [7] (fun i wr => ∃ k : Nat, k ≤ n ∧ i = .int .i64 k ∧ (∀ j, j < k → (f j).size ≤ 200) ∧ w = wr) (fun i _ => n - (intOf i).toNat)
 case atStart => exact ⟨0, by omega, rfl, fun j hj => absurd hj (by omega), rfl⟩
 case round =>
  obtain ⟨k, hk, rfl, hall, rfl⟩ := hrel
  have HL : Hid (∀ j, j < k → (f j).size ≤ 200) := hall
  clear hall
  by_cases hlt : k < n
  ·obtain ⟨b, off, rfl, hc⟩ := HS.out.opened (by omega)
   have c1 := hc k hlt
   have hlt' : (k : Int) < (n : Int) := by omega
   clear hc
   by_cases hs : 200 < (f k).size
   ·obtain rfl : r = false := by
     rcases Bool.eq_false_or_eq_true r with h | h
     ·have := HR.out.1 h k hlt; omega
     ·exact h
    have hs' : (200 : Int) < ((f k).size : Int) := by omega
    generalize f k = V at *
    go_wp2
    go_ret
    exact ⟨rfl, rfl⟩
   ·have hs' : ¬ (200 : Int) < ((f k).size : Int) := by omega
    have HS2 : Hid ((f k).size ≤ 200) := by show (f k).size ≤ 200; omega
    clear hs
    go_wp2
    go_roundw
    case rel => exact ⟨k + 1, by omega, by go_num, fun j hj => by
     rcases (show j < k ∨ j = k by omega) with g | rfl
     ·exact HL.out j g
     ·exact HS2.out, trivial⟩
    case measure => simp [intOf]; omega
  ·obtain rfl : r = true := HR.out.2 (fun i hi => HL.out i (by omega))
   have hlt' : ¬ (k : Int) < (n : Int) := by omega
   go_wp2
   go_ret
   exact ⟨rfl, rfl⟩
end Go.Proofs.YtiamaoihachhgaaGreatDoor
namespace Go.Proofs.YtiamaoihachhgaaGreatDoor
open Go.ChangeShapes Go.WideShapes Go.ChangeAt Go.RowKit
set_option maxRecDepth 100000 in
set_option maxHeartbeats 4000000 in
theorem implOK_any (d : Dk) (a0 a1 a2 : Option Addr) (c0 c1 c2 : Nat) (hd : d.nb ≤ 1048576 ∧ d.nc ≤ 1048576 ∧ d.ns ≤ 1048576) (p0 p1 : Addr) (w : World) (h : DiskV w d a0 a1 a2) (hE0 : ErrAt w 1 p0) (hE1 : ErrAt w 2 p1) :
  Calls Tryz.prog 54 #[.agg #[.slice a0 d.nb c0, .slice a1 d.nc c1, .slice a2 d.ns c2]] w fun e w' => e = .returned (.bool d.ok) ∧ Below w.heap.size w w' := by
 obtain ⟨hd0, hd1, hd2⟩ := hd
 have A1 : Hid (Below w.heap.size w (w.alloc (.cells #[.slice a0 d.nb c0, .slice a1 d.nc c1, .slice a2 d.ns c2] 29))) := (Below.refl w.heap.size w).alloc (Nat.le_refl _) _
 have RA : Hid (Box3 (w.alloc (.cells #[.slice a0 d.nb c0, .slice a1 d.nc c1, .slice a2 d.ns c2] 29)) w.heap.size 29 (.slice a0 d.nb c0) (.slice a1 d.nc c1) (.slice a2 d.ns c2)) := Box3.made w _ _ _ _
 obtain ⟨r, hr⟩ : ∃ r, r = d.ok := ⟨_, rfl⟩
 rw [← hr]
 have RT : Hid (d.Ok → r = true) := fun q => by rw [hr]; exact Dk.ok_true q
 have RF : Hid (¬ d.Ok → r = false) := fun q => by rw [hr]; exact Dk.ok_false q
 have HD : Hid (DiskV w d a0 a1 a2) := h
 have E0 : Hid (ErrAt w 1 p0) := hE0
 have E1 : Hid (ErrAt w 2 p1) := hE1
 clear h hr hE0 hE1
 by_cases p1' : 1 ≤ d.nb ∧ d.nb ≤ 64 ∧ d.nc ≤ 4096
 ·obtain ⟨p1a, p1b, p2⟩ := p1'
  have x1 : ¬ (d.nb : Int) < 1 := by omega
  have x2 : ¬ (64 : Int) < d.nb := by omega
  have e2 : ¬ (4096 : Int) < d.nc := by omega
  by_cases p3 : d.ns = 0 ∨ d.ns = d.nb
  ·have OK0 : Hid ((∀ i, i < d.nb → (d.B i).size ≤ 200) → (∀ i, i < d.ns → (d.S i).size ≤ 200) → (∀ i, i < d.nc → (0 ≤ d.A i ∧ d.A i < d.nb) ∧ (d.D i).size ≤ 200) → d.Ok) := fun q1 q2 q3 => ⟨p1a, p1b, p2, p3, q1, q3, q2⟩
   have e3 : ((d.ns : Int) != 0) = true ∧ ((d.ns : Int) != (d.nb : Int)) = false ∨ ((d.ns : Int) != 0) = false := by
    rcases p3 with e | e
    ·right; simp; omega
    ·by_cases g : d.ns = 0
     ·right; simp; omega
     ·left; simp; omega
   have hns : d.ns ≤ 64 := by omega
   clear p3
   go_enter Tryz.func54, Tryz.ntmps54
   rcases e3 with ⟨e3, e4⟩ | e3
   all_goals
    go_wp2
    generalize (w.alloc (.cells #[.slice a0 d.nb c0, .slice a1 d.nc c1, .slice a2 d.ns c2] 29)) = v at *
    go_loopw [37] (fun i wr => ∃ k : Nat, k ≤ d.nc ∧ i = .int .i64 k ∧ (∀ j, j < k → (0 ≤ d.A j ∧ d.A j < d.nb) ∧ (d.D j).size ≤ 200) ∧ Box3 wr w.heap.size 29 (.slice a0 d.nb c0) (.slice a1 d.nc c1) (.slice a2 d.ns c2) ∧ Below w.heap.size w wr) (fun i _ => d.nc - (intOf i).toNat)
    case atStart => exact ⟨0, by omega, rfl, fun j hj => absurd hj (by omega), RA.out, A1.out⟩
    case round =>
     clear RA A1
     obtain ⟨k, hk, rfl, hall, hbox, hb⟩ := hrel
     have HL : Hid (∀ j, j < k → (0 ≤ d.A j ∧ d.A j < d.nb) ∧ (d.D j).size ≤ 200) := hall
     have RA : Hid (Box3 wr w.heap.size 29 (.slice a0 d.nb c0) (.slice a1 d.nc c1) (.slice a2 d.ns c2)) := hbox
     have A1 : Hid (Below w.heap.size w wr) := hb
     have k0 := RA.out.c0
     have k1 := RA.out.c1
     have k2 := RA.out.c2
     clear hall hbox
     by_cases hlt : k < d.nc
     ·obtain ⟨b, off, rfl, hc⟩ := (HD.out.2.1.below hb).opened (by omega)
      obtain ⟨cc, cd⟩ := hc k hlt
      have hlt' : (k : Int) < (d.nc : Int) := by omega
      have hsz := hb.size
      have hkl := RA.out.lt
      clear hc hb
      have B2 : Hid (Below wr.heap.size wr (wr.alloc (.cells #[.int .i64 (d.A k), .string (d.D k)] 107))) := (Below.refl wr.heap.size wr).alloc (Nat.le_refl _) _
      by_cases g : 0 ≤ d.A k ∧ d.A k < d.nb
      ·by_cases hs : 200 < (d.D k).size
       ·have PF : Hid (∀ w : World, ErrAt w 2 p1 → Calls Tryz.prog 86 #[.agg #[.slice a0 d.nb c0, .slice (some ⟨b, off, none⟩) d.nc c1, .slice a2 d.ns c2], .int .i64 (d.A k), .string (d.D k)] w fun e w' => e = .returned (.iface 273 (.pointer (some p1))) ∧ Below w.heap.size w w') := fun w he => placeFault_long _ _ _ _ _ _ _ _ _ _ _ g.1 g.2 hs p1 w he
        obtain rfl : r = false := RF.out (fun q => by have := (q.C k hlt).2; omega)
        clear g hs
        go_wp2_with fail
        refine (PF.out _ ((E1.out.below A1.out).below B2.out)).mono ?_
        rintro e w1 ⟨rfl, hb⟩
        have B3 : Hid (Below w.heap.size w w1) := A1.out.trans ((B2.out.trans (hb.mono B2.out.size)).mono A1.out.size)
        clear hb B2 A1 RA k0 k1 k2 cc cd PF
        go_wp2
        go_ret
        exact ⟨rfl, B3.out⟩
       ·have PF : Hid (∀ w : World, Calls Tryz.prog 86 #[.agg #[.slice a0 d.nb c0, .slice (some ⟨b, off, none⟩) d.nc c1, .slice a2 d.ns c2], .int .i64 (d.A k), .string (d.D k)] w fun e w' => e = .returned .nilIface ∧ Below w.heap.size w w') := fun w => placeFault_ok _ _ _ _ _ _ _ _ _ _ _ g.1 g.2 (by omega) w
        have HG : Hid ((0 ≤ d.A k ∧ d.A k < d.nb) ∧ (d.D k).size ≤ 200) := ⟨g, by omega⟩
        clear g hs
        go_wp2_with fail
        refine (PF.out _).mono ?_
        rintro e w1 ⟨rfl, hb⟩
        have B3 : Hid (Below w.heap.size w w1) := A1.out.trans ((B2.out.trans (hb.mono B2.out.size)).mono A1.out.size)
        have R3 : Hid (Box3 w1 w.heap.size 29 (.slice a0 d.nb c0) (.slice (some ⟨b, off, none⟩) d.nc c1) (.slice a2 d.ns c2)) := (RA.out.below B2.out).below hb
        clear hb B2 A1 RA k0 k1 k2 cc cd PF
        go_wp2
        go_roundw
        case rel => exact ⟨k + 1, by omega, by go_num, fun j hj => by
         rcases (show j < k ∨ j = k by omega) with g | rfl
         ·exact HL.out j g
         ·exact HG.out, R3.out, B3.out⟩
        case measure => simp [intOf]; omega
      ·have PF : Hid (∀ w : World, ErrAt w 1 p0 → Calls Tryz.prog 86 #[.agg #[.slice a0 d.nb c0, .slice (some ⟨b, off, none⟩) d.nc c1, .slice a2 d.ns c2], .int .i64 (d.A k), .string (d.D k)] w fun e w' => e = .returned (.iface 273 (.pointer (some p0))) ∧ Below w.heap.size w w') := fun w he => placeFault_range _ _ _ _ _ _ _ _ _ _ _ g p0 w he
       obtain rfl : r = false := RF.out (fun q => g (q.C k hlt).1)
       clear g
       go_wp2_with fail
       refine (PF.out _ ((E0.out.below A1.out).below B2.out)).mono ?_
       rintro e w1 ⟨rfl, hb⟩
       have B3 : Hid (Below w.heap.size w w1) := A1.out.trans ((B2.out.trans (hb.mono B2.out.size)).mono A1.out.size)
       clear hb B2 A1 RA k0 k1 k2 cc cd PF
       go_wp2
       go_ret
       exact ⟨rfl, B3.out⟩
     ·have hlt' : ¬ (k : Int) < (d.nc : Int) := by omega
      have OK2 : Hid ((∀ i, i < d.nb → (d.B i).size ≤ 200) → (∀ i, i < d.ns → (d.S i).size ≤ 200) → d.Ok) := fun q1 q2 => OK0.out q1 q2 (fun i hi => HL.out i (by omega))
      by_cases g : ∀ i, i < d.nb → (d.B i).size ≤ 200
      ·have F1 : Hid (∀ w : World, Strs w a0 d.nb d.B → Calls Tryz.prog 87 #[.slice a0 d.nb c0] w fun e w' => e = .returned (.bool true) ∧ w = w') := fun w h => blocksFit_any a0 d.nb c0 d.B true ⟨fun _ => g, fun _ => rfl⟩ (by omega) w h
       have HG : Hid (∀ i, i < d.nb → (d.B i).size ≤ 200) := g
       have F2 : Hid (∀ w : World, Strs w a2 d.ns d.S → Calls Tryz.prog 87 #[.slice a2 d.ns c2] w fun e w' => e = .returned (.bool r) ∧ w = w') := fun w h => blocksFit_any a2 d.ns c2 d.S r ⟨fun hr i hi => (Classical.em d.Ok).elim (fun q => q.S i hi) (fun q => absurd (hr.symm.trans (RF.out q)) (by decide)), fun q2 => RT.out (OK2.out HG.out q2)⟩ (by omega) w h
       clear g hb HL OK2
       go_wp2_with fail
       refine (F1.out _ (HD.out.1.below A1.out)).mono ?_
       rintro e w1 ⟨rfl, rfl⟩
       clear F1
       go_wp2_with fail
       refine (F2.out _ (HD.out.2.2.below A1.out)).mono ?_
       rintro e w1 ⟨rfl, rfl⟩
       clear F2 RT RF
       go_wp2
       go_ret
       exact ⟨by cases r <;> rfl, A1.out⟩
      ·have F1 : Hid (∀ w : World, Strs w a0 d.nb d.B → Calls Tryz.prog 87 #[.slice a0 d.nb c0] w fun e w' => e = .returned (.bool false) ∧ w = w') := fun w h => blocksFit_any a0 d.nb c0 d.B false ⟨fun h => by (cases h), fun h => absurd h g⟩ (by omega) w h
       obtain rfl : r = false := RF.out (fun q => g q.B)
       clear g hb HL OK2
       go_wp2_with fail
       refine (F1.out _ (HD.out.1.below A1.out)).mono ?_
       rintro e w1 ⟨rfl, rfl⟩
       clear F1
       go_wp2
       go_ret
       exact ⟨rfl, A1.out⟩
  ·obtain rfl : r = false := RF.out (fun q => p3 q.ns)
   have e3 : ((d.ns : Int) != 0) = true := by simp; omega
   have e4 : ((d.ns : Int) != (d.nb : Int)) = true := by simp; omega
   go_enter Tryz.func54, Tryz.ntmps54
   go_wp2
   go_ret
   exact ⟨rfl, A1.out⟩
 ·obtain rfl : r = false := RF.out (fun q => p1' ⟨q.nb1, q.nb2, q.nc⟩)
  by_cases x1 : (d.nb : Int) < 1
  ·go_enter Tryz.func54, Tryz.ntmps54
   go_wp2
   go_ret
   exact ⟨rfl, A1.out⟩
  ·by_cases x2 : (64 : Int) < d.nb
   ·go_enter Tryz.func54, Tryz.ntmps54
    go_wp2
    go_ret
    exact ⟨rfl, A1.out⟩
   ·have x3 : (4096 : Int) < d.nc := by omega
    go_enter Tryz.func54, Tryz.ntmps54
    go_wp2
    go_ret
    exact ⟨rfl, A1.out⟩
end Go.Proofs.YtiamaoihachhgaaGreatDoor
namespace Go.Proofs.YtiamaoihachhgaaGreatDoor
open Go.ChangeShapes Go.WideShapes Go.ChangeAt Go.RowKit
open Go.MapKept Go.ChangeMaps
def MapI (w : World) (b : Nat) (M : Int → Option Value) : Prop := ∃ es clock, w.heap[b]? = some (.map es clock) ∧ Stamped es clock ∧ (∀ e ∈ es.toList, ∃ a, e.key = .int .i64 a ∧ M a = some e.val) ∧ (∀ a v, M a = some v → ∃ e ∈ es.toList, e.key = .int .i64 a)
theorem MapI.lt {w : World} {b : Nat} {M : Int → Option Value} (h : MapI w b M) : b < w.heap.size := by
 obtain ⟨es, clock, hb, _⟩ := h
 exact (Array.getElem?_eq_some_iff.1 hb).1
theorem MapI.ofBlock {w w' : World} {b : Nat} {M : Int → Option Value} (h : MapI w b M) (e : w'.heap[b]? = w.heap[b]?) : MapI w' b M := by
 obtain ⟨es, clock, hb, r⟩ := h
 exact ⟨es, clock, e.trans hb, r⟩
theorem MapI.below {w w' : World} {b : Nat} {M : Int → Option Value} (h : MapI w b M) (hb : Below w.heap.size w w') : MapI w' b M := h.ofBlock (hb.block b h.lt)
theorem MapI.onlyB {w w' : World} {b g : Nat} {M : Int → Option Value} (h : MapI w b M) (ho : OnlyB g w w') (hne : b ≠ g) : MapI w' b M := h.ofBlock (ho.block b h.lt hne)
theorem MapI.made (w : World) : MapI (w.alloc (.map #[] 0)) w.heap.size (fun _ => none) := ⟨#[], 0, (MapKept.heap_alloc w _).1, stamped_empty 0, by simp, by simp⟩
theorem isKeyI (a : Int) : IsKey (.int .i64) (.int .i64 a) := rfl
theorem MapI.keys {es : Array MapEntry} {M : Int → Option Value} (h : ∀ e ∈ es.toList, ∃ a, e.key = .int .i64 a ∧ M a = some e.val) : ∀ x ∈ es.toList, IsKey (.int .i64) x.key := fun x hx => by
 obtain ⟨a, ha, _⟩ := h x hx
 rw [ha]
 exact isKeyI a
theorem MapI.look {P : Program} {w : World} {b : Nat} {M : Int → Option Value} {t k e : TypeId} (h : MapI w b M) (ht : P.underlying t = some (.map k e)) (hk : P.underlying k = some (.int .i64)) {z : Value} (hz : (zeroValue e).run P w = .ok z w) (a : Int) :
  (Instr.lookup t (.map (some b)) (.int .i64 a) true).run P w = .ok (.tuple #[(M a).getD z, .bool (M a).isSome]) w := by
 obtain ⟨es, clock, hb, hs, h1, h2⟩ := h
 rcases findNow_spec (isKeyI a) es.toList 0 (MapI.keys h1) with ⟨f1, f2⟩ | ⟨j, e0, f1, f2, f3⟩
 ·have hM : M a = none := by
   cases hMa : M a with
   | none => rfl
   | some v =>
    obtain ⟨x, hx, hxa⟩ := h2 a v hMa
    exact absurd hxa (f2 x hx)
  simp [Instr.lookup, run_underlying ht, MapKept.run_getObj_map hb, run_checkKey hk (isKeyI a) _ 9999, run_findKey hk f1, hz, Result.andThen, hM]
 ·obtain ⟨a', ha', hv⟩ := h1 e0 (List.mem_of_getElem? f2)
  rw [f3] at ha'
  cases ha'
  simp [Instr.lookup, run_underlying ht, MapKept.run_getObj_map hb, run_checkKey hk (isKeyI a) _ 9999, run_findKey hk f1, Result.andThen, hv]
theorem onlyB_setBlock (w : World) (b : Nat) (o' : Obj) : OnlyB b w (setBlock w b o') :=
 ⟨rfl, rfl, rfl, by simp [setBlock], fun k _ hn => by simp [setBlock, Ne.symm hn]⟩
theorem MapI.put {P : Program} {w : World} {b : Nat} {M : Int → Option Value} {t k e : TypeId} (h : MapI w b M) (ht : P.underlying t = some (.map k e)) (hk : P.underlying k = some (.int .i64)) (a : Int) (v : Value) :
  ∃ w', (Instr.mapUpdate t (.map (some b)) (.int .i64 a) v).run P w = .ok () w' ∧ MapI w' b (fun x => if x = a then some v else M x) ∧ OnlyB b w w' ∧ w'.heap.size = w.heap.size := by
 obtain ⟨es, clock, hb, hs, h1, h2⟩ := h
 have hp := ((stamped_iff es clock).1 hs).2.2
 rcases findNow_spec (isKeyI a) es.toList 0 (MapI.keys h1) with ⟨f1, f2⟩ | ⟨j, e0, f1, f2, f3⟩
 ·refine ⟨setBlock w b (.map (es.push ⟨.int .i64 a, v, clock⟩) (clock + 1)), ?_, ⟨_, _, heap_setBlock_same hb _, stamped_push hs f2, ?_, ?_⟩, onlyB_setBlock _ _ _, by simp [setBlock]⟩
  ·simp [Instr.mapUpdate, run_underlying ht, MapKept.run_getObj_map hb, run_checkKey hk (isKeyI a) _ 9999, run_findKey hk f1, MapKept.run_setObj_map _ hb, Result.andThen, setBlock]
  ·intro x hx
   simp only [Array.toList_push, List.mem_append, List.mem_singleton] at hx
   rcases hx with hx | rfl
   ·obtain ⟨a', ha', hv⟩ := h1 x hx
    refine ⟨a', ha', ?_⟩
    dsimp only
    rw [if_neg (fun e => f2 x hx (by rw [ha', e]))]
    exact hv
   ·exact ⟨a, rfl, if_pos rfl⟩
  ·intro x v' hx
   by_cases e : x = a
   ·subst e
    exact ⟨⟨.int .i64 x, v, clock⟩, by simp, rfl⟩
   ·dsimp only at hx
    rw [if_neg e] at hx
    obtain ⟨y, hy, hya⟩ := h2 x v' hx
    exact ⟨y, by simp only [Array.toList_push, List.mem_append]; exact .inl hy, hya⟩
 ·have hj : es[j]? = some e0 := by simpa using f2
  have hjl : j < es.toList.length := (List.getElem?_eq_some_iff.1 f2).1
  have hlist : (es.modify j (fun e' => { e' with key := .int .i64 a, val := v })).toList = es.toList.set j { e0 with key := .int .i64 a, val := v } := by rw [Array.toList_modify, modify_eq_set _ _ _ _ f2]
  refine ⟨setBlock w b (.map (es.modify j (fun e' => { e' with key := .int .i64 a, val := v })) clock), ?_, ⟨_, _, heap_setBlock_same hb _, stamped_modify hs _ _ (fun _ _ => rfl) (fun e' _ he' => by rw [hj] at he'; cases he'; exact f3.symm), ?_, ?_⟩, onlyB_setBlock _ _ _, by simp [setBlock]⟩
  ·simp [Instr.mapUpdate, run_underlying ht, MapKept.run_getObj_map hb, run_checkKey hk (isKeyI a) _ 9999, run_findKey hk f1, hj, f3, run_keyThatStays (isKeyI a), MapKept.run_setObj_map _ hb, Result.andThen, setBlock]
  ·intro x hx
   rw [hlist] at hx
   obtain ⟨i, hi, ex⟩ := List.getElem_of_mem hx
   rw [List.getElem_set] at ex
   split at ex
   ·subst ex
    exact ⟨a, rfl, if_pos rfl⟩
   ·rename_i hne
    have hi' : i < es.toList.length := by simpa using hi
    have hm : x ∈ es.toList := ex ▸ List.getElem_mem hi'
    obtain ⟨a', ha', hv⟩ := h1 x hm
    refine ⟨a', ha', ?_⟩
    have hpi := List.pairwise_iff_getElem.1 hp
    have : x.key ≠ e0.key := by
     have e0' : es.toList[j] = e0 := by
      have := f2
      rw [List.getElem?_eq_getElem hjl] at this
      exact Option.some.inj this
     rcases Nat.lt_or_gt_of_ne hne with g | g
     ·have := hpi j i hjl hi' g
      rw [e0', ex] at this
      exact fun q => this q.symm
     ·have := hpi i j hi' hjl g
      rw [e0', ex] at this
      exact this
    dsimp only
    rw [if_neg (fun e => this (by rw [ha', f3, e]))]
    exact hv
  ·intro x v' hx
   by_cases e : x = a
   ·subst e
    refine ⟨{ e0 with key := .int .i64 x, val := v }, ?_, rfl⟩
    rw [hlist]
    exact List.mem_iff_getElem.2 ⟨j, by simpa using hjl, by simp⟩
   ·dsimp only at hx
    rw [if_neg e] at hx
    obtain ⟨y, hy, hya⟩ := h2 x v' hx
    refine ⟨y, ?_, hya⟩
    rw [hlist]
    obtain ⟨i, hi, ey⟩ := List.getElem_of_mem hy
    refine List.mem_iff_getElem.2 ⟨i, by simpa using hi, ?_⟩
    rw [List.getElem_set, if_neg, ey]
    intro ej
    subst ej
    rw [List.getElem?_eq_getElem hi, ey] at f2
    cases f2
    rw [f3] at hya
    cases hya
    exact e rfl
end Go.Proofs.YtiamaoihachhgaaGreatDoor
namespace Go.Proofs.YtiamaoihachhgaaGreatDoor
open Go.ChangeShapes Go.WideShapes Go.ChangeAt Go.RowKit
theorem zeroPen (w : World) : (zeroValue 107).run Tryz.prog w = .ok (.agg #[.int .i64 0, .string ⟨#[]⟩]) w := by kernel_rfl
set_option maxRecDepth 100000 in
set_option maxHeartbeats 2000000 in
theorem driveOf_any (d : Dk) (a0 a1 a2 : Option Addr) (c0 c1 c2 : Nat) (hn : d.nc ≤ 4096) (w : World) (h : Pens w a1 d.nc d.A d.D) :
  Calls Tryz.prog 34 #[.agg #[.slice a0 d.nb c0, .slice a1 d.nc c1, .slice a2 d.ns c2]] w fun e w' => e = .returned (.pointer (some ⟨w.heap.size + 2, 0, none⟩)) ∧ Box4 w' (w.heap.size + 2) 92 (.slice a0 d.nb c0) (.slice a1 d.nc c1) (.slice a2 d.ns c2) (.map (some (w.heap.size + 1))) ∧ MapI w' (w.heap.size + 1) (lastM d.A d.D d.nc) ∧ Below w.heap.size w w' := by
 have HP : Hid (Pens w a1 d.nc d.A d.D) := h
 clear h
 have hmk : ∀ w : World, (Instr.makeMap 90 none).run Tryz.prog w = .ok (.map (some w.heap.size)) (w.alloc (.map #[] 0)) := fun w => run_makeMap 90 w
 go_enter Tryz.func34, Tryz.ntmps34
 have B0 : Hid (Below w.heap.size w (((w.alloc (.cells #[.slice a0 d.nb c0, .slice a1 d.nc c1, .slice a2 d.ns c2] 29)).alloc (.map #[] 0)).alloc (.cells #[.slice a0 d.nb c0, .slice a1 d.nc c1, .slice a2 d.ns c2, .map (some (w.heap.size + 1))] 92))) := (((Below.refl w.heap.size w).alloc (Nat.le_refl _) _).alloc (by simp) _).alloc (by simp; omega) _
 have X0 : Hid (Box4 (((w.alloc (.cells #[.slice a0 d.nb c0, .slice a1 d.nc c1, .slice a2 d.ns c2] 29)).alloc (.map #[] 0)).alloc (.cells #[.slice a0 d.nb c0, .slice a1 d.nc c1, .slice a2 d.ns c2, .map (some (w.heap.size + 1))] 92)) (w.heap.size + 1 + 1) 92 (.slice a0 d.nb c0) (.slice a1 d.nc c1) (.slice a2 d.ns c2) (.map (some (w.heap.size + 1)))) := Box4.madeAt (by simp) _ _ _ _ _
 have M0 : Hid (MapI (((w.alloc (.cells #[.slice a0 d.nb c0, .slice a1 d.nc c1, .slice a2 d.ns c2] 29)).alloc (.map #[] 0)).alloc (.cells #[.slice a0 d.nb c0, .slice a1 d.nc c1, .slice a2 d.ns c2, .map (some (w.heap.size + 1))] 92)) (w.heap.size + 1) (lastM d.A d.D 0)) := by
  have := MapI.made (w.alloc (.cells #[.slice a0 d.nb c0, .slice a1 d.nc c1, .slice a2 d.ns c2] 29))
  rw [show (w.alloc (.cells #[.slice a0 d.nb c0, .slice a1 d.nc c1, .slice a2 d.ns c2] 29)).heap.size = w.heap.size + 1 from by simp] at this
  exact this.below ((Below.refl _ _).alloc (Nat.le_refl _) _)
 go_wp2
 generalize (((w.alloc (.cells #[.slice a0 d.nb c0, .slice a1 d.nc c1, .slice a2 d.ns c2] 29)).alloc (.map #[] 0)).alloc (.cells #[.slice a0 d.nb c0, .slice a1 d.nc c1, .slice a2 d.ns c2, .map (some (w.heap.size + 1))] 92)) = v at *
 clear hmk
 go_loopw [13] (fun i wr => ∃ k : Nat, k ≤ d.nc ∧ i = .int .i64 k ∧ Box4 wr (w.heap.size + 1 + 1) 92 (.slice a0 d.nb c0) (.slice a1 d.nc c1) (.slice a2 d.ns c2) (.map (some (w.heap.size + 1))) ∧ MapI wr (w.heap.size + 1) (lastM d.A d.D k) ∧ Below w.heap.size w wr) (fun i _ => d.nc - (intOf i).toNat)
 case atStart => exact ⟨0, by omega, rfl, X0.out, M0.out, B0.out⟩
 case round =>
  clear B0 X0 M0
  obtain ⟨k, hk, rfl, hx, hm, hb⟩ := hrel
  have B0 : Hid (Below w.heap.size w wr) := hb
  have X0 : Hid (Box4 wr (w.heap.size + 1 + 1) 92 (.slice a0 d.nb c0) (.slice a1 d.nc c1) (.slice a2 d.ns c2) (.map (some (w.heap.size + 1)))) := hx
  have M0 : Hid (MapI wr (w.heap.size + 1) (lastM d.A d.D k)) := hm
  clear hx hm
  by_cases hlt : k < d.nc
  ·obtain ⟨b, off, rfl, hc⟩ := (HP.out.below hb).opened (by omega)
   obtain ⟨cc, cd⟩ := hc k hlt
   have hlt' : (k : Int) < (d.nc : Int) := by omega
   have hq := X0.out.lt
   have B2 : Below wr.heap.size wr (wr.alloc (.cells #[.int .i64 (d.A k), .string (d.D k)] 107)) := (Below.refl wr.heap.size wr).alloc (Nat.le_refl _) _
   have X1 : Box4 (wr.alloc (.cells #[.int .i64 (d.A k), .string (d.D k)] 107)) (w.heap.size + 1 + 1) 92 (.slice a0 d.nb c0) (.slice (some ⟨b, off, none⟩) d.nc c1) (.slice a2 d.ns c2) (.map (some (w.heap.size + 1))) := X0.out.below B2
   have e3 := X1.c3
   obtain ⟨wz, hmu, hM, hO, hsz⟩ := MapI.put (P := Tryz.prog) (w := (wr.alloc (.cells #[.int .i64 (d.A k), .string (d.D k)] 107)).drew) (M0.out.below B2.drew) Tryz.underlying90 Tryz.underlying3 (d.A k) (.agg #[.int .i64 (d.A k), .string (d.D k)])
   have HM : Hid (MapI wz (w.heap.size + 1) (lastM d.A d.D (k + 1))) := hM
   have HO : Hid (OnlyB (w.heap.size + 1) (wr.alloc (.cells #[.int .i64 (d.A k), .string (d.D k)] 107)).drew wz) := hO
   have HX : Hid (Box4 wz (w.heap.size + 1 + 1) 92 (.slice a0 d.nb c0) (.slice (some ⟨b, off, none⟩) d.nc c1) (.slice a2 d.ns c2) (.map (some (w.heap.size + 1)))) := Box4.onlyB (X0.out.below B2.drew) hO (by omega)
   have HB : Hid (Below w.heap.size w wz) := B0.out.trans ((B2.drew.mono B0.out.size).trans (hO.toBelow (by omega) (by have := B0.out.size; have := B2.drew.size; omega)))
   clear hM hO hsz hc hb B2 X1
   go_wp2_with fail
   go_region
   clear hmu e3 cc cd
   go_wp2
   go_roundw
   case rel => exact ⟨k + 1, by omega, by go_num, HX.out, HM.out, HB.out⟩
   case measure => simp [intOf]; omega
  ·have hlt' : ¬ (k : Int) < (d.nc : Int) := by omega
   obtain rfl : k = d.nc := by omega
   clear hb
   go_wp2
   go_ret
   exact ⟨rfl, X0.out, M0.out, B0.out⟩
set_option maxRecDepth 100000 in
set_option maxHeartbeats 2000000 in
theorem stands_any (d : Dk) (a0 : Option Addr) (c0 q b x : Nat) (y z : Value) (hx : x < d.nb) (hn : d.nb ≤ 64) (w : World) (hq : Box4 w q 92 (.slice a0 d.nb c0) y z (.map (some b))) (hm : MapI w b (lastM d.A d.D d.nc)) (hB : Strs w a0 d.nb d.B) :
  Calls Tryz.prog 95 #[.pointer (some ⟨q, 0, none⟩), .int .i64 (x : Int)] w fun e w' => e = .returned (.string (d.rd x)) ∧ Below w.heap.size w w' := by
 have hl := hm.look (P := Tryz.prog) Tryz.underlying90 Tryz.underlying3 (zeroPen w) (x : Int)
 have k0 := hq.c0
 have k3 := hq.c3
 obtain ⟨b1, off, rfl, hc⟩ := hB.opened (by omega)
 have cx := hc x hx
 have hx1 : (x : Int) < (d.nb : Int) := by omega
 have hx0 : (0 : Int) ≤ (x : Int) := by omega
 rcases lastM_rd d.A d.D (d.B x) (x : Int) d.nc with ⟨e1, e2⟩ | e1
 ·have HR : Hid (d.rd x = d.B x) := e2
  rw [e1] at hl
  simp only [Option.getD_none, Option.isSome_none] at hl
  have B2 : Hid (Below w.heap.size w (w.alloc (.cells #[.int .i64 0, .string ⟨#[]⟩] 107))) := (Below.refl w.heap.size w).alloc (Nat.le_refl _) _
  have hlt := hq.lt
  clear hm hB hc hq e2 e1
  generalize d.rd x = R at *
  generalize d.B x = V at *
  have cx2 : (w.alloc (.cells #[.int .i64 0, .string ⟨#[]⟩] 107)).cell? ⟨b1, off + x, none⟩ = some (.string V) := by rw [B2.out.cell (strBlock cx)]; exact cx
  go_enter Tryz.func95, Tryz.ntmps95
  go_wp2
  go_ret
  exact ⟨by rw [HR.out]; rfl, B2.out⟩
 ·have e3 : lastM d.A d.D d.nc (x : Int) = some (.agg #[.int .i64 (x : Int), .string (d.rd x)]) := e1
  rw [e3] at hl
  simp only [Option.getD_some, Option.isSome_some] at hl
  clear hm hB hc hq e1 e3
  generalize d.rd x = R at *
  have B2 : Hid (Below w.heap.size w (w.alloc (.cells #[.int .i64 (x : Int), .string R] 107))) := (Below.refl w.heap.size w).alloc (Nat.le_refl _) _
  go_enter Tryz.func95, Tryz.ntmps95
  go_wp2
  go_ret
  exact ⟨rfl, B2.out⟩
end Go.Proofs.YtiamaoihachhgaaGreatDoor
