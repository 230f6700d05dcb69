/-
  Texts of the proof, joined: SlotR2, SlotO.
-/
import Derived.Test.YtboekhegbachpaaGreatDoorS38
import Derived.Test.YtboekhegbachpaaGreatDoorS05
import Derived.Test.YtboekhegbachpaaGreatDoorS10
import Derived.Test.YtboekhegbachpaaGreatDoorS40
namespace Go.Proofs.YtboekhegbachpaaGreatDoor
open Go.ChangeShapes Go.WideShapes Go.ChangeAt Go.RowKit
set_option linter.unusedVariables false
theorem rdS_short (k : ByteArray) (p n : Nat) (f : Nat → Nat) (h : n < 20) : rdS k p n f = false := by unfold rdS; rw [decide_eq_false (by omega), Bool.false_and]
theorem unsealed_any (k : ByteArray) (p : Nat) (a : Option Addr) (n c : Nat) (f : Nat → Nat) (hf : ∀ i, f i < 256) (hk : k.size = 32) (hp : p < 4294967296) (hn : n ≤ 65536) (hcap : n ≤ c) (w : World) (hc : Code8 w a n f) (ht : Tabs w) :
  Calls Tryz.prog 54 #[.string k, .int .i64 (p : Int), .slice a n c] w fun e w' => e = .returned (.tuple #[.agg #[.int .i64 (rdE k p n f), .string (rdD k p n f)], .int .i64 (rdC k p n f)]) ∧ Below w.heap.size w w' := by
 by_cases h20 : n < 20
 ·obtain ⟨e1, e2, e3⟩ := rd_no (rdS_short k p n f h20)
  rw [e1, e2, e3]
  by_cases h4 : n < 4
  ·exact unsealed_short k p a n c h4 w
  ·obtain ⟨b, o, rfl, -⟩ := hc.opened (by omega)
   exact unsealed_mid k p b o n c f hf hk hp (by omega) h20 hcap w hc ht
 ·obtain ⟨m, rfl⟩ : ∃ m, n = m + 20 := ⟨n - 20, by omega⟩
  obtain ⟨b, o, rfl, -⟩ := hc.opened (by omega)
  exact unsealed_long k p b o m c f hf hk hp (by omega) hcap w hc ht
theorem l06Read_any (k : ByteArray) (p : Nat) (t : ByteArray) (hk : k.size = 32) (hp : p < 4294967296) (hn : t.size ≤ 65536) (w : World) :
  Calls Tryz.prog 47 #[.string k, .int .i64 (p : Int), .string t] w fun e w' => e = .returned (.tuple #[.agg #[.int .i64 (rdE k p t.size (strB t)), .string (rdD k p t.size (strB t))], .bool (rdS k p t.size (strB t))]) ∧ Below w.heap.size w w' := by
 by_cases h20 : t.size < 20
 ·have h := rdS_short k p t.size (strB t) h20
  obtain ⟨e1, e2, -⟩ := rd_no h
  rw [e1, e2, h]
  exact l06Read_short k p t h20 w
 ·exact l06Read_long k p (t.size - 20) t hk hp (by omega) (by omega) w
theorem bool_cases (P : Prop) : ∃ r : Bool, r = true ↔ P := by
 by_cases h : P
 ·exact ⟨true, fun _ => h, fun _ => rfl⟩
 ·exact ⟨false, fun q => (by cases q), fun q => absurd q h⟩
end Go.Proofs.YtboekhegbachpaaGreatDoor
namespace Go.Proofs.YtboekhegbachpaaGreatDoor
open Go.ChangeShapes Go.WideShapes Go.ChangeAt Go.RowKit
set_option linter.unusedVariables false
theorem Sl2.putE {b : Nat} {ep : Int} {d : ByteArray} {w : World} (h : Sl2 b ep d w) (x : Int) : Sl2 b x d (w.setCell ⟨b, 0, none⟩ (.int .i64 x)) := ⟨World.cell?_setCell_same _ _ _ (by rw [h.c0]), (World.cell?_setCell_other _ ⟨b, 0, none⟩ ⟨b, 1, none⟩ _ (fun q => by have := congrArg Addr.off q; simp at this)).trans h.c1, fun i => by rw [World.frozen?_setCell]; exact h.fr i, by simpa using h.lt⟩
theorem rdF_le (A : Nat → Int) (D : Nat → ByteArray) (b : ByteArray) (x : Int) (hb : b.size ≤ 200) : ∀ k, (∀ i, i < k → (D i).size ≤ 200) → (rdF A D b x k).size ≤ 200
 | 0, _ => hb
 | k + 1, h => by
  unfold rdF
  split
  ·exact h k (by omega)
  ·exact rdF_le A D b x hb k (fun i hi => h i (by omega))
theorem Dk.rd_le {d : Dk} (hd : d.Ok) (x : Nat) (hx : x < d.nb) : (d.rd x).size ≤ 200 := rdF_le _ _ _ _ (hd.B x hx) _ (fun i hi => (hd.C i hi).2)
def opS (k : ByteArray) (d : Dk) (q : Nat) : Bool := rdS k q (d.rd q).size (strB (d.rd q))
def opE (k : ByteArray) (d : Dk) (q : Nat) : Int := rdE k q (d.rd q).size (strB (d.rd q))
def opD (k : ByteArray) (d : Dk) (q : Nat) : ByteArray := rdD k q (d.rd q).size (strB (d.rd q))
def opC (k : ByteArray) (d : Dk) (q : Nat) : Int := rdC k q (d.rd q).size (strB (d.rd q))
def bst (k : ByteArray) (d : Dk) : Nat → Int × ByteArray
 | 0 => (0, ⟨#[]⟩)
 | q + 1 => if opS k d q = true ∧ (bst k d q).1 < opE k d q then (opE k d q, opD k d q) else bst k d q
theorem opE_pos {k : ByteArray} {d : Dk} {q : Nat} (h : opS k d q = true) : 1 ≤ opE k d q := by
 have h1 := (rd_yes h).1
 unfold opS at h
 unfold rdS at h
 rw [Bool.and_eq_true, Bool.and_eq_true, decide_eq_true_iff, decide_eq_true_iff] at h
 show 1 ≤ rdE k q (d.rd q).size (strB (d.rd q))
 rw [h1]
 have := h.2.2.1
 omega
theorem bst_nn (k : ByteArray) (d : Dk) : ∀ q, 0 ≤ (bst k d q).1
 | 0 => Int.le_refl _
 | q + 1 => by
  unfold bst
  split
  ·rename_i h
   have := opE_pos h.1
   show 0 ≤ opE k d q
   omega
  ·exact bst_nn k d q
set_option maxRecDepth 100000 in
set_option maxHeartbeats 4000000 in
theorem l06Open_any (k : ByteArray) (d : Dk) (a0 a1 a2 : Option Addr) (c0 c1 c2 : Nat) (hk : k.size = 32) (hd : d.Ok) (hn : 2 ≤ d.nb) (w : World) (h : DiskV w d a0 a1 a2) :
  Calls Tryz.prog 30 #[.string k, .agg #[.slice a0 d.nb c0, .slice a1 d.nc c1, .slice a2 d.ns c2]] w fun e w' => e = .returned (.agg #[.int .i64 (bst k d 2).1, .string (bst k d 2).2]) ∧ Below w.heap.size w w' := by
 have RD : Hid (∀ (q : Nat) (w : World), q < 2 → DiskV w d a0 a1 a2 → Calls Tryz.prog 48 #[.agg #[.slice a0 d.nb c0, .slice a1 d.nc c1, .slice a2 d.ns c2], .int .i64 (q : Int)] w fun e w' => e = .returned (.string (d.rd q)) ∧ Below w.heap.size w w') := fun q w hq h => l05Read_any d a0 a1 a2 c0 c1 c2 q (by omega) hd.nb2 hd.nc w h
 have RS : Hid (∀ (q : Nat) (w : World), q < 2 → Calls Tryz.prog 47 #[.string k, .int .i64 (q : Int), .string (d.rd q)] w fun e w' => e = .returned (.tuple #[.agg #[.int .i64 (opE k d q), .string (opD k d q)], .bool (opS k d q)]) ∧ Below w.heap.size w w') := fun q w hq => l06Read_any k q (d.rd q) hk (by omega) (by have := Dk.rd_le hd q (by omega); omega) w
 have HV : Hid (DiskV w d a0 a1 a2) := h
 have A1 : Below w.heap.size w (((w.alloc (.cells #[.slice a0 d.nb c0, .slice a1 d.nc c1, .slice a2 d.ns c2] 29)).alloc (.cells #[.int .i64 0, .string ⟨#[]⟩] 64)).alloc (.cells #[.int .i64 0, .string ⟨#[]⟩] 64)) := (((Below.refl w.heap.size w).alloc (Nat.le_refl _) _).alloc (by simp) _).alloc (by simp; omega) _
 have BX : Hid (Box3 (((w.alloc (.cells #[.slice a0 d.nb c0, .slice a1 d.nc c1, .slice a2 d.ns c2] 29)).alloc (.cells #[.int .i64 0, .string ⟨#[]⟩] 64)).alloc (.cells #[.int .i64 0, .string ⟨#[]⟩] 64)) w.heap.size 29 (.slice a0 d.nb c0) (.slice a1 d.nc c1) (.slice a2 d.ns c2)) := ((Box3.made w _ _ _ _).alloc _).alloc _
 have ZR : Hid (Sl2 (w.heap.size + 1) 0 ⟨#[]⟩ (((w.alloc (.cells #[.slice a0 d.nb c0, .slice a1 d.nc c1, .slice a2 d.ns c2] 29)).alloc (.cells #[.int .i64 0, .string ⟨#[]⟩] 64)).alloc (.cells #[.int .i64 0, .string ⟨#[]⟩] 64))) := (Sl2.madeAt (by simp) _ _ _).below ((Below.refl _ _).alloc (Nat.le_refl _) _)
 have BS : Hid (Sl2 (w.heap.size + 2) (bst k d 0).1 (bst k d 0).2 (((w.alloc (.cells #[.slice a0 d.nb c0, .slice a1 d.nc c1, .slice a2 d.ns c2] 29)).alloc (.cells #[.int .i64 0, .string ⟨#[]⟩] 64)).alloc (.cells #[.int .i64 0, .string ⟨#[]⟩] 64))) := Sl2.madeAt (by simp) _ _ _
 have AA1 : Hid (Below w.heap.size w (((w.alloc (.cells #[.slice a0 d.nb c0, .slice a1 d.nc c1, .slice a2 d.ns c2] 29)).alloc (.cells #[.int .i64 0, .string ⟨#[]⟩] 64)).alloc (.cells #[.int .i64 0, .string ⟨#[]⟩] 64))) := A1
 clear h A1 hk hd hn
 go_enter Tryz.func30, Tryz.ntmps30
 go_wp2
 generalize (((w.alloc (.cells #[.slice a0 d.nb c0, .slice a1 d.nc c1, .slice a2 d.ns c2] 29)).alloc (.cells #[.int .i64 0, .string ⟨#[]⟩] 64)).alloc (.cells #[.int .i64 0, .string ⟨#[]⟩] 64)) = v0 at *
 go_loopw [6] (fun i wr => ∃ q : Nat, q ≤ 2 ∧ i = .int .i64 (q : Int) ∧ Box3 wr w.heap.size 29 (.slice a0 d.nb c0) (.slice a1 d.nc c1) (.slice a2 d.ns c2) ∧ Sl2 (w.heap.size + 1) 0 ⟨#[]⟩ wr ∧ Sl2 (w.heap.size + 2) (bst k d q).1 (bst k d q).2 wr ∧ Below w.heap.size w wr) (fun i _ => 2 - (intOf i).toNat)
 case atStart => exact ⟨0, by omega, rfl, BX.out, ZR.out, BS.out, AA1.out⟩
 case round =>
  clear BX ZR BS AA1
  obtain ⟨q, hq, rfl, bx, zr, bs, hb⟩ := hrel
  have BX : Hid (Box3 wr w.heap.size 29 (.slice a0 d.nb c0) (.slice a1 d.nc c1) (.slice a2 d.ns c2)) := bx
  have ZR : Hid (Sl2 (w.heap.size + 1) 0 ⟨#[]⟩ wr) := zr
  have BS : Hid (Sl2 (w.heap.size + 2) (bst k d q).1 (bst k d q).2 wr) := bs
  have A1 : Hid (Below w.heap.size w wr) := hb
  clear bx zr bs hb
  by_cases hlt : q < 2
  ·have y1 : (q : Int) < 2 := by omega
   have t0 := BX.out.c0
   have t1 := BX.out.c1
   have t2 := BX.out.c2
   go_wp2_with fail
   clear t0 t1 t2
   refine (RD.out q _ hlt (HV.out.below A1.out)).mono ?_
   rintro e v1 ⟨rfl, hb⟩
   replace BX : Hid (Box3 v1 w.heap.size 29 (.slice a0 d.nb c0) (.slice a1 d.nc c1) (.slice a2 d.ns c2)) := BX.out.below hb
   replace ZR : Hid (Sl2 (w.heap.size + 1) 0 ⟨#[]⟩ v1) := ZR.out.below hb
   replace BS : Hid (Sl2 (w.heap.size + 2) (bst k d q).1 (bst k d q).2 v1) := BS.out.below hb
   replace A1 : Hid (Below w.heap.size w v1) := A1.out.trans (hb.mono A1.out.size)
   clear hb
   go_wp2_with fail
   refine (RS.out q _ hlt).mono ?_
   rintro e v2 ⟨rfl, hb⟩
   replace BX : Hid (Box3 v2 w.heap.size 29 (.slice a0 d.nb c0) (.slice a1 d.nc c1) (.slice a2 d.ns c2)) := BX.out.below hb
   replace ZR : Hid (Sl2 (w.heap.size + 1) 0 ⟨#[]⟩ v2) := ZR.out.below hb
   replace BS : Hid (Sl2 (w.heap.size + 2) (bst k d q).1 (bst k d q).2 v2) := BS.out.below hb
   replace A1 : Hid (Below w.heap.size w v2) := A1.out.trans (hb.mono A1.out.size)
   clear hb
   have hst : bst k d (q + 1) = if opS k d q = true ∧ (bst k d q).1 < opE k d q then (opE k d q, opD k d q) else bst k d q := rfl
   have HST : Hid (bst k d (q + 1) = if opS k d q = true ∧ (bst k d q).1 < opE k d q then (opE k d q, opD k d q) else bst k d q) := hst
   clear hst
   generalize opE k d q = E at *
   generalize opD k d q = D at *
   generalize hB1 : (bst k d q).1 = BE at *
   generalize hB2 : (bst k d q).2 = BD at *
   have HB : Hid (bst k d q = (BE, BD)) := by show bst k d q = _; rw [← hB1, ← hB2]
   clear hB1 hB2
   have hb : Below v2.heap.size v2 (v2.alloc (.cells #[.int .i64 E, .string D] 64)) := (Below.refl _ _).alloc (Nat.le_refl _) _
   have S0 : Hid (Sl2 v2.heap.size E D (v2.alloc (.cells #[.int .i64 E, .string D] 64))) := Sl2.made v2 _ _ _
   replace BX : Hid (Box3 (v2.alloc (.cells #[.int .i64 E, .string D] 64)) w.heap.size 29 (.slice a0 d.nb c0) (.slice a1 d.nc c1) (.slice a2 d.ns c2)) := BX.out.below hb
   replace ZR : Hid (Sl2 (w.heap.size + 1) 0 ⟨#[]⟩ (v2.alloc (.cells #[.int .i64 E, .string D] 64))) := ZR.out.below hb
   replace BS : Hid (Sl2 (w.heap.size + 2) BE BD (v2.alloc (.cells #[.int .i64 E, .string D] 64))) := BS.out.below hb
   replace A1 : Hid (Below w.heap.size w (v2.alloc (.cells #[.int .i64 E, .string D] 64))) := A1.out.trans (hb.mono A1.out.size)
   have s0 := S0.out.c0
   have s1 := S0.out.c1
   have b0 := BS.out.c0
   have b1 := BS.out.c1
   have b2 := BS.out.fr 0
   have b3 := BS.out.fr 1
   clear hb
   cases hS : opS k d q with
   | false =>
    have HN : Hid (bst k d (q + 1) = (BE, BD)) := by show bst k d (q + 1) = _; rw [HST.out, hS, if_neg (by simp)]; exact HB.out
    clear HST HB hS
    go_wp2
    go_roundw
    case rel => exact ⟨q + 1, by omega, by go_num, BX.out, ZR.out, by rw [HN.out]; exact BS.out, A1.out⟩
    case measure => simp [intOf]; omega
   | true =>
    by_cases hgt : BE < E
    ·have HN : Hid (bst k d (q + 1) = (E, D)) := by show bst k d (q + 1) = _; rw [HST.out, hS, if_pos ⟨rfl, hgt⟩]
     have ho : OnlyB (w.heap.size + 2) (v2.alloc (.cells #[.int .i64 E, .string D] 64)) (((v2.alloc (.cells #[.int .i64 E, .string D] 64)).setCell ⟨w.heap.size + 2, 0, none⟩ (.int .i64 E)).setCell ⟨w.heap.size + 2, 1, none⟩ (.string D)) := ((OnlyB.refl _ _).setCell 0 _).setCell 1 _
     have BX5 : Hid (Box3 (((v2.alloc (.cells #[.int .i64 E, .string D] 64)).setCell ⟨w.heap.size + 2, 0, none⟩ (.int .i64 E)).setCell ⟨w.heap.size + 2, 1, none⟩ (.string D)) w.heap.size 29 (.slice a0 d.nb c0) (.slice a1 d.nc c1) (.slice a2 d.ns c2)) := BX.out.ofBlock (ho.block _ BX.out.lt (by omega))
     have ZR5 : Hid (Sl2 (w.heap.size + 1) 0 ⟨#[]⟩ (((v2.alloc (.cells #[.int .i64 E, .string D] 64)).setCell ⟨w.heap.size + 2, 0, none⟩ (.int .i64 E)).setCell ⟨w.heap.size + 2, 1, none⟩ (.string D))) := ZR.out.only ho (by omega)
     have BS5 : Hid (Sl2 (w.heap.size + 2) E D (((v2.alloc (.cells #[.int .i64 E, .string D] 64)).setCell ⟨w.heap.size + 2, 0, none⟩ (.int .i64 E)).setCell ⟨w.heap.size + 2, 1, none⟩ (.string D))) := (BS.out.putE E).put D
     have A5 : Hid (Below w.heap.size w (((v2.alloc (.cells #[.int .i64 E, .string D] 64)).setCell ⟨w.heap.size + 2, 0, none⟩ (.int .i64 E)).setCell ⟨w.heap.size + 2, 1, none⟩ (.string D))) := A1.out.trans (ho.toBelow (by omega) A1.out.size)
     clear HST HB hS ho BX ZR BS A1
     go_wp2
     go_roundw
     case rel => exact ⟨q + 1, by omega, by go_num, BX5.out, ZR5.out, by rw [HN.out]; exact BS5.out, A5.out⟩
     case measure => simp [intOf]; omega
    ·have HN : Hid (bst k d (q + 1) = (BE, BD)) := by show bst k d (q + 1) = _; rw [HST.out, if_neg (fun h => hgt h.2)]; exact HB.out
     clear HST HB hS
     go_wp2
     go_roundw
     case rel => exact ⟨q + 1, by omega, by go_num, BX.out, ZR.out, by rw [HN.out]; exact BS.out, A1.out⟩
     case measure => simp [intOf]; omega
  ·obtain rfl : q = 2 := by omega
   have b0 := BS.out.c0
   have b1 := BS.out.c1
   have z0 := ZR.out.c0
   have z1 := ZR.out.c1
   have z2 := ZR.out.fr 0
   have z3 := ZR.out.fr 1
   clear RD RS HV
   go_wp2
   exact retCell1 (b := w.heap.size + 1) (v := .agg #[.int .i64 (bst k d 2).1, .string (bst k d 2).2]) Tryz.results30 rfl (by go_simp) ⟨rfl, (A1.out.setCell (Nat.le_succ _) _).setCell (Nat.le_succ _) _⟩
end Go.Proofs.YtboekhegbachpaaGreatDoor
