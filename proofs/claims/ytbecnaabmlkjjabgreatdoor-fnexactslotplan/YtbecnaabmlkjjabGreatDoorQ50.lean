/-
  Texts of the proof, joined: SlotR2, SlotO, Plan, Better, SlotP, PlanI, PlanM, PlanE.
-/
import Derived.Test.YtbecnaabmlkjjabGreatDoorQ47
import Derived.Test.YtbecnaabmlkjjabGreatDoorQ08
import Derived.Test.YtbecnaabmlkjjabGreatDoorQ13
import Derived.Test.YtbecnaabmlkjjabGreatDoorQ49
import Derived.ScopeJumps
import Derived.Test.YtbecnaabmlkjjabGreatDoorQ01
namespace Go.Proofs.YtbecnaabmlkjjabGreatDoor
open Go.ChangeShapes Go.WideShapes Go.ChangeAt Go.RowKit
set_option linter.unusedVariables false
theorem rdS_short (k : ByteArray) (p n : Nat) (f : Nat → Nat) (h : n < 20) : rdS k p n f = false := by unfold rdS; rw [decide_eq_false (by omega), Bool.false_and]
theorem unsealed_any (k : ByteArray) (p : Nat) (a : Option Addr) (n c : Nat) (f : Nat → Nat) (hf : ∀ i, f i < 256) (hk : k.size = 32) (hp : p < 4294967296) (hn : n ≤ 65536) (hcap : n ≤ c) (w : World) (hc : Code8 w a n f) (ht : Tabs w) :
    Calls Tryz.prog 53 #[.string k, .int .i64 (p : Int), .slice a n c] w fun e w' => e = .returned (.tuple #[.agg #[.int .i64 (rdE k p n f), .string (rdD k p n f)], .int .i64 (rdC k p n f)]) ∧ Below w.heap.size w w' := by
  by_cases h20 : n < 20
  · obtain ⟨e1, e2, e3⟩ := rd_no (rdS_short k p n f h20)
    rw [e1, e2, e3]
    by_cases h4 : n < 4
    · exact unsealed_short k p a n c h4 w
    · obtain ⟨b, o, rfl, -⟩ := hc.opened (by omega)
      exact unsealed_mid k p b o n c f hf hk hp (by omega) h20 hcap w hc ht
  · obtain ⟨m, rfl⟩ : ∃ m, n = m + 20 := ⟨n - 20, by omega⟩
    obtain ⟨b, o, rfl, -⟩ := hc.opened (by omega)
    exact unsealed_long k p b o m c f hf hk hp (by omega) hcap w hc ht
theorem l06Read_any (k : ByteArray) (p : Nat) (t : ByteArray) (hk : k.size = 32) (hp : p < 4294967296) (hn : t.size ≤ 65536) (w : World) :
    Calls Tryz.prog 49 #[.string k, .int .i64 (p : Int), .string t] w fun e w' => e = .returned (.tuple #[.agg #[.int .i64 (rdE k p t.size (strB t)), .string (rdD k p t.size (strB t))], .bool (rdS k p t.size (strB t))]) ∧ Below w.heap.size w w' := by
  by_cases h20 : t.size < 20
  · have h := rdS_short k p t.size (strB t) h20
    obtain ⟨e1, e2, -⟩ := rd_no h
    rw [e1, e2, h]
    exact l06Read_short k p t h20 w
  · exact l06Read_long k p (t.size - 20) t hk hp (by omega) (by omega) w
theorem bool_cases (P : Prop) : ∃ r : Bool, r = true ↔ P := by
  by_cases h : P
  · exact ⟨true, fun _ => h, fun _ => rfl⟩
  · exact ⟨false, fun q => (by cases q), fun q => absurd q h⟩
end Go.Proofs.YtbecnaabmlkjjabGreatDoor
namespace Go.Proofs.YtbecnaabmlkjjabGreatDoor
open Go.ChangeShapes Go.WideShapes Go.ChangeAt Go.RowKit
set_option linter.unusedVariables false
theorem Sl2.putE {b : Nat} {ep : Int} {d : ByteArray} {w : World} (h : Sl2 b ep d w) (x : Int) : Sl2 b x d (w.setCell ⟨b, 0, none⟩ (.int .i64 x)) := ⟨World.cell?_setCell_same _ _ _ (by rw [h.c0]), (World.cell?_setCell_other _ ⟨b, 0, none⟩ ⟨b, 1, none⟩ _ (fun q => by have := congrArg Addr.off q; simp at this)).trans h.c1, fun i => by rw [World.frozen?_setCell]; exact h.fr i, by simpa using h.lt⟩
theorem rdF_le (A : Nat → Int) (D : Nat → ByteArray) (b : ByteArray) (x : Int) (hb : b.size ≤ 200) : ∀ k, (∀ i, i < k → (D i).size ≤ 200) → (rdF A D b x k).size ≤ 200
  | 0, _ => hb
  | k + 1, h => by
    unfold rdF
    split
    · exact h k (by omega)
    · exact rdF_le A D b x hb k (fun i hi => h i (by omega))
theorem Dk.rd_le {d : Dk} (hd : d.Ok) (x : Nat) (hx : x < d.nb) : (d.rd x).size ≤ 200 := rdF_le _ _ _ _ (hd.B x hx) _ (fun i hi => (hd.C i hi).2)
def opS (k : ByteArray) (d : Dk) (q : Nat) : Bool := rdS k q (d.rd q).size (strB (d.rd q))
def opE (k : ByteArray) (d : Dk) (q : Nat) : Int := rdE k q (d.rd q).size (strB (d.rd q))
def opD (k : ByteArray) (d : Dk) (q : Nat) : ByteArray := rdD k q (d.rd q).size (strB (d.rd q))
def opC (k : ByteArray) (d : Dk) (q : Nat) : Int := rdC k q (d.rd q).size (strB (d.rd q))
def bst (k : ByteArray) (d : Dk) : Nat → Int × ByteArray
  | 0 => (0, ⟨#[]⟩)
  | q + 1 => if opS k d q = true ∧ (bst k d q).1 < opE k d q then (opE k d q, opD k d q) else bst k d q
theorem opE_pos {k : ByteArray} {d : Dk} {q : Nat} (h : opS k d q = true) : 1 ≤ opE k d q := by
  have h1 := (rd_yes h).1
  unfold opS at h
  unfold rdS at h
  rw [Bool.and_eq_true, Bool.and_eq_true, decide_eq_true_iff, decide_eq_true_iff] at h
  show 1 ≤ rdE k q (d.rd q).size (strB (d.rd q))
  rw [h1]
  have := h.2.2.1
  omega
theorem bst_nn (k : ByteArray) (d : Dk) : ∀ q, 0 ≤ (bst k d q).1
  | 0 => Int.le_refl _
  | q + 1 => by
    unfold bst
    split
    · rename_i h
      have := opE_pos h.1
      show 0 ≤ opE k d q
      omega
    · exact bst_nn k d q
set_option maxRecDepth 100000 in
set_option maxHeartbeats 4000000 in
theorem l06Open_any (k : ByteArray) (d : Dk) (a0 a1 a2 : Option Addr) (c0 c1 c2 : Nat) (hk : k.size = 32) (hd : d.Ok) (hn : 2 ≤ d.nb) (w : World) (h : DiskV w d a0 a1 a2) :
    Calls Tryz.prog 24 #[.string k, .agg #[.slice a0 d.nb c0, .slice a1 d.nc c1, .slice a2 d.ns c2]] w fun e w' => e = .returned (.agg #[.int .i64 (bst k d 2).1, .string (bst k d 2).2]) ∧ Below w.heap.size w w' := by
  have RD : Hid (∀ (q : Nat) (w : World), q < 2 → DiskV w d a0 a1 a2 → Calls Tryz.prog 50 #[.agg #[.slice a0 d.nb c0, .slice a1 d.nc c1, .slice a2 d.ns c2], .int .i64 (q : Int)] w fun e w' => e = .returned (.string (d.rd q)) ∧ Below w.heap.size w w') := fun q w hq h => l05Read_any d a0 a1 a2 c0 c1 c2 q (by omega) hd.nb2 hd.nc w h
  have RS : Hid (∀ (q : Nat) (w : World), q < 2 → Calls Tryz.prog 49 #[.string k, .int .i64 (q : Int), .string (d.rd q)] w fun e w' => e = .returned (.tuple #[.agg #[.int .i64 (opE k d q), .string (opD k d q)], .bool (opS k d q)]) ∧ Below w.heap.size w w') := fun q w hq => l06Read_any k q (d.rd q) hk (by omega) (by have := Dk.rd_le hd q (by omega); omega) w
  have HV : Hid (DiskV w d a0 a1 a2) := h
  have A1 : Below w.heap.size w (((w.alloc (.cells #[.slice a0 d.nb c0, .slice a1 d.nc c1, .slice a2 d.ns c2] 33)).alloc (.cells #[.int .i64 0, .string ⟨#[]⟩] 28)).alloc (.cells #[.int .i64 0, .string ⟨#[]⟩] 28)) := (((Below.refl w.heap.size w).alloc (Nat.le_refl _) _).alloc (by simp) _).alloc (by simp; omega) _
  have BX : Hid (Box3 (((w.alloc (.cells #[.slice a0 d.nb c0, .slice a1 d.nc c1, .slice a2 d.ns c2] 33)).alloc (.cells #[.int .i64 0, .string ⟨#[]⟩] 28)).alloc (.cells #[.int .i64 0, .string ⟨#[]⟩] 28)) w.heap.size 33 (.slice a0 d.nb c0) (.slice a1 d.nc c1) (.slice a2 d.ns c2)) := ((Box3.made w _ _ _ _).alloc _).alloc _
  have ZR : Hid (Sl2 (w.heap.size + 1) 0 ⟨#[]⟩ (((w.alloc (.cells #[.slice a0 d.nb c0, .slice a1 d.nc c1, .slice a2 d.ns c2] 33)).alloc (.cells #[.int .i64 0, .string ⟨#[]⟩] 28)).alloc (.cells #[.int .i64 0, .string ⟨#[]⟩] 28))) := (Sl2.madeAt (by simp) _ _ _).below ((Below.refl _ _).alloc (Nat.le_refl _) _)
  have BS : Hid (Sl2 (w.heap.size + 2) (bst k d 0).1 (bst k d 0).2 (((w.alloc (.cells #[.slice a0 d.nb c0, .slice a1 d.nc c1, .slice a2 d.ns c2] 33)).alloc (.cells #[.int .i64 0, .string ⟨#[]⟩] 28)).alloc (.cells #[.int .i64 0, .string ⟨#[]⟩] 28))) := Sl2.madeAt (by simp) _ _ _
  have AA1 : Hid (Below w.heap.size w (((w.alloc (.cells #[.slice a0 d.nb c0, .slice a1 d.nc c1, .slice a2 d.ns c2] 33)).alloc (.cells #[.int .i64 0, .string ⟨#[]⟩] 28)).alloc (.cells #[.int .i64 0, .string ⟨#[]⟩] 28))) := A1
  clear h A1 hk hd hn
  go_enter Tryz.func24, Tryz.ntmps24
  go_wp2
  generalize (((w.alloc (.cells #[.slice a0 d.nb c0, .slice a1 d.nc c1, .slice a2 d.ns c2] 33)).alloc (.cells #[.int .i64 0, .string ⟨#[]⟩] 28)).alloc (.cells #[.int .i64 0, .string ⟨#[]⟩] 28)) = v0 at *
  go_loopw [6] (fun i wr => ∃ q : Nat, q ≤ 2 ∧ i = .int .i64 (q : Int) ∧ Box3 wr w.heap.size 33 (.slice a0 d.nb c0) (.slice a1 d.nc c1) (.slice a2 d.ns c2) ∧ Sl2 (w.heap.size + 1) 0 ⟨#[]⟩ wr ∧ Sl2 (w.heap.size + 2) (bst k d q).1 (bst k d q).2 wr ∧ Below w.heap.size w wr) (fun i _ => 2 - (intOf i).toNat)
  case atStart => exact ⟨0, by omega, rfl, BX.out, ZR.out, BS.out, AA1.out⟩
  case round =>
    clear BX ZR BS AA1
    obtain ⟨q, hq, rfl, bx, zr, bs, hb⟩ := hrel
    have BX : Hid (Box3 wr w.heap.size 33 (.slice a0 d.nb c0) (.slice a1 d.nc c1) (.slice a2 d.ns c2)) := bx
    have ZR : Hid (Sl2 (w.heap.size + 1) 0 ⟨#[]⟩ wr) := zr
    have BS : Hid (Sl2 (w.heap.size + 2) (bst k d q).1 (bst k d q).2 wr) := bs
    have A1 : Hid (Below w.heap.size w wr) := hb
    clear bx zr bs hb
    by_cases hlt : q < 2
    · have y1 : (q : Int) < 2 := by omega
      have t0 := BX.out.c0
      have t1 := BX.out.c1
      have t2 := BX.out.c2
      go_wp2_with fail
      clear t0 t1 t2
      refine (RD.out q _ hlt (HV.out.below A1.out)).mono ?_
      rintro e v1 ⟨rfl, hb⟩
      replace BX : Hid (Box3 v1 w.heap.size 33 (.slice a0 d.nb c0) (.slice a1 d.nc c1) (.slice a2 d.ns c2)) := BX.out.below hb
      replace ZR : Hid (Sl2 (w.heap.size + 1) 0 ⟨#[]⟩ v1) := ZR.out.below hb
      replace BS : Hid (Sl2 (w.heap.size + 2) (bst k d q).1 (bst k d q).2 v1) := BS.out.below hb
      replace A1 : Hid (Below w.heap.size w v1) := A1.out.trans (hb.mono A1.out.size)
      clear hb
      go_wp2_with fail
      refine (RS.out q _ hlt).mono ?_
      rintro e v2 ⟨rfl, hb⟩
      replace BX : Hid (Box3 v2 w.heap.size 33 (.slice a0 d.nb c0) (.slice a1 d.nc c1) (.slice a2 d.ns c2)) := BX.out.below hb
      replace ZR : Hid (Sl2 (w.heap.size + 1) 0 ⟨#[]⟩ v2) := ZR.out.below hb
      replace BS : Hid (Sl2 (w.heap.size + 2) (bst k d q).1 (bst k d q).2 v2) := BS.out.below hb
      replace A1 : Hid (Below w.heap.size w v2) := A1.out.trans (hb.mono A1.out.size)
      clear hb
      have hst : bst k d (q + 1) = if opS k d q = true ∧ (bst k d q).1 < opE k d q then (opE k d q, opD k d q) else bst k d q := rfl
      have HST : Hid (bst k d (q + 1) = if opS k d q = true ∧ (bst k d q).1 < opE k d q then (opE k d q, opD k d q) else bst k d q) := hst
      clear hst
      generalize opE k d q = E at *
      generalize opD k d q = D at *
      generalize hB1 : (bst k d q).1 = BE at *
      generalize hB2 : (bst k d q).2 = BD at *
      have HB : Hid (bst k d q = (BE, BD)) := by show bst k d q = _; rw [← hB1, ← hB2]
      clear hB1 hB2
      have hb : Below v2.heap.size v2 (v2.alloc (.cells #[.int .i64 E, .string D] 28)) := (Below.refl _ _).alloc (Nat.le_refl _) _
      have S0 : Hid (Sl2 v2.heap.size E D (v2.alloc (.cells #[.int .i64 E, .string D] 28))) := Sl2.made v2 _ _ _
      replace BX : Hid (Box3 (v2.alloc (.cells #[.int .i64 E, .string D] 28)) w.heap.size 33 (.slice a0 d.nb c0) (.slice a1 d.nc c1) (.slice a2 d.ns c2)) := BX.out.below hb
      replace ZR : Hid (Sl2 (w.heap.size + 1) 0 ⟨#[]⟩ (v2.alloc (.cells #[.int .i64 E, .string D] 28))) := ZR.out.below hb
      replace BS : Hid (Sl2 (w.heap.size + 2) BE BD (v2.alloc (.cells #[.int .i64 E, .string D] 28))) := BS.out.below hb
      replace A1 : Hid (Below w.heap.size w (v2.alloc (.cells #[.int .i64 E, .string D] 28))) := A1.out.trans (hb.mono A1.out.size)
      have s0 := S0.out.c0
      have s1 := S0.out.c1
      have b0 := BS.out.c0
      have b1 := BS.out.c1
      have b2 := BS.out.fr 0
      have b3 := BS.out.fr 1
      clear hb
      cases hS : opS k d q with
      | false =>
        have HN : Hid (bst k d (q + 1) = (BE, BD)) := by show bst k d (q + 1) = _; rw [HST.out, hS, if_neg (by simp)]; exact HB.out
        clear HST HB hS
        go_wp2
        go_roundw
        case rel => exact ⟨q + 1, by omega, by go_num, BX.out, ZR.out, by rw [HN.out]; exact BS.out, A1.out⟩
        case measure => simp [intOf]; omega
      | true =>
        by_cases hgt : BE < E
        · have HN : Hid (bst k d (q + 1) = (E, D)) := by show bst k d (q + 1) = _; rw [HST.out, hS, if_pos ⟨rfl, hgt⟩]
          have ho : OnlyB (w.heap.size + 2) (v2.alloc (.cells #[.int .i64 E, .string D] 28)) (((v2.alloc (.cells #[.int .i64 E, .string D] 28)).setCell ⟨w.heap.size + 2, 0, none⟩ (.int .i64 E)).setCell ⟨w.heap.size + 2, 1, none⟩ (.string D)) := ((OnlyB.refl _ _).setCell 0 _).setCell 1 _
          have BX5 : Hid (Box3 (((v2.alloc (.cells #[.int .i64 E, .string D] 28)).setCell ⟨w.heap.size + 2, 0, none⟩ (.int .i64 E)).setCell ⟨w.heap.size + 2, 1, none⟩ (.string D)) w.heap.size 33 (.slice a0 d.nb c0) (.slice a1 d.nc c1) (.slice a2 d.ns c2)) := BX.out.ofBlock (ho.block _ BX.out.lt (by omega))
          have ZR5 : Hid (Sl2 (w.heap.size + 1) 0 ⟨#[]⟩ (((v2.alloc (.cells #[.int .i64 E, .string D] 28)).setCell ⟨w.heap.size + 2, 0, none⟩ (.int .i64 E)).setCell ⟨w.heap.size + 2, 1, none⟩ (.string D))) := ZR.out.only ho (by omega)
          have BS5 : Hid (Sl2 (w.heap.size + 2) E D (((v2.alloc (.cells #[.int .i64 E, .string D] 28)).setCell ⟨w.heap.size + 2, 0, none⟩ (.int .i64 E)).setCell ⟨w.heap.size + 2, 1, none⟩ (.string D))) := (BS.out.putE E).put D
          have A5 : Hid (Below w.heap.size w (((v2.alloc (.cells #[.int .i64 E, .string D] 28)).setCell ⟨w.heap.size + 2, 0, none⟩ (.int .i64 E)).setCell ⟨w.heap.size + 2, 1, none⟩ (.string D))) := A1.out.trans (ho.toBelow (by omega) A1.out.size)
          clear HST HB hS ho BX ZR BS A1
          go_wp2
          go_roundw
          case rel => exact ⟨q + 1, by omega, by go_num, BX5.out, ZR5.out, by rw [HN.out]; exact BS5.out, A5.out⟩
          case measure => simp [intOf]; omega
        · have HN : Hid (bst k d (q + 1) = (BE, BD)) := by show bst k d (q + 1) = _; rw [HST.out, if_neg (fun h => hgt h.2)]; exact HB.out
          clear HST HB hS
          go_wp2
          go_roundw
          case rel => exact ⟨q + 1, by omega, by go_num, BX.out, ZR.out, by rw [HN.out]; exact BS.out, A1.out⟩
          case measure => simp [intOf]; omega
    · obtain rfl : q = 2 := by omega
      have b0 := BS.out.c0
      have b1 := BS.out.c1
      have z0 := ZR.out.c0
      have z1 := ZR.out.c1
      have z2 := ZR.out.fr 0
      have z3 := ZR.out.fr 1
      clear RD RS HV
      go_wp2
      exact retCell1 (b := w.heap.size + 1) (v := .agg #[.int .i64 (bst k d 2).1, .string (bst k d 2).2]) Tryz.results24 rfl (by go_simp) ⟨rfl, (A1.out.setCell (Nat.le_succ _) _).setCell (Nat.le_succ _) _⟩
end Go.Proofs.YtbecnaabmlkjjabGreatDoor
namespace Go.Proofs.YtbecnaabmlkjjabGreatDoor
open Go.ChangeShapes Go.WideShapes Go.ChangeAt Go.RowKit
set_option linter.unusedVariables false
def planL (x : Int) (t : ByteArray) : Array Value := #[.int .i64 2, .int .i64 0, .string ⟨#[]⟩, .slice none 0 0, .int .i64 0, .int .i64 1, .int .i64 x, .string t, .slice none 0 0, .int .i64 0, .int .i64 2, .int .i64 0, .string ⟨#[]⟩, .slice none 0 0, .int .i64 0]
def PlanR (w : World) (b : Nat) (x : Int) (t : ByteArray) : Prop := w.rowIs b 64 15 (fun i => (planL x t).getD i undef)
theorem PlanR.made (w : World) (x : Int) (t : ByteArray) : PlanR (w.alloc (.cells (planL x t) 64)) w.heap.size x t := World.rowIs_alloc w (planL x t) 64 _ (fun i hi => by
  rw [Array.getD_eq_getD_getElem?, Array.getElem?_eq_getElem hi, Option.getD_some])
theorem PlanR.lt {w : World} {b : Nat} {x : Int} {t : ByteArray} (h : PlanR w b x t) : b < w.heap.size := World.rowIs.lt h
theorem PlanR.cell {w : World} {b : Nat} {x : Int} {t : ByteArray} (h : PlanR w b x t) (i : Nat) (hi : i < 15) : w.cell? ⟨b, i, none⟩ = some ((planL x t).getD i undef) := World.rowIs.cell h hi
theorem tmod2 (e : Nat) : ((e : Nat) : Int).tmod 2 = ((e % 2 : Nat) : Int) := (Int.ofNat_tmod e 2).symm
def planT (k : ByteArray) (e : Nat) (s : ByteArray) : ByteArray := kstr (slotF k (e % 2) e s) 0 (20 + s.size)
set_option maxRecDepth 100000 in
set_option maxHeartbeats 2000000 in
theorem slotActs_any (k s : ByteArray) (e0 : Nat) (hk : k.size = 32) (he : e0 < 4294967296) (hs : s.size ≤ 170) (w : World) (ht : Tabs w) :
    Calls Tryz.prog 33 #[.string k, .agg #[.int .i64 (e0 : Int), .string s]] w fun e w' => (∃ b, e = .returned (.slice (some ⟨b, 0, none⟩) 3 3) ∧ w.heap.size ≤ b ∧ PlanR w' b ((e0 % 2 : Nat) : Int) (planT k e0 s)) ∧ Below w.heap.size w w' := by
  have SE : Hid (∀ w : World, Tabs w → Calls Tryz.prog 57 #[.string k, .int .i64 ((e0 % 2 : Nat) : Int), .agg #[.int .i64 (e0 : Int), .string s]] w fun e w' => RetO w.heap.size w' e (20 + s.size) (slotF k (e0 % 2) e0 s) ∧ Below w.heap.size w w') := fun w h => sealedSlot_any k s (e0 % 2) e0 hk (by omega) he (by omega) w h
  have HP : Hid (planT k e0 s = kstr (slotF k (e0 % 2) e0 s) 0 (20 + s.size)) := rfl
  generalize planT k e0 s = PT at *
  generalize slotF k (e0 % 2) e0 s = F at *
  have A1 : Hid (Below w.heap.size w (w.alloc (.cells #[.int .i64 (e0 : Int), .string s] 28))) := (Below.refl _ _).alloc (Nat.le_refl _) _
  have C0 : Hid (Sl2 w.heap.size (e0 : Int) s (w.alloc (.cells #[.int .i64 (e0 : Int), .string s] 28))) := Sl2.made w _ _ _
  have HT : Hid (Tabs w) := ht
  have em := tmod2 e0
  have em2 : ((e0 : Nat) : Int) % 2 = ((e0 % 2 : Nat) : Int) := by omega
  generalize e0 % 2 = P at *
  have s0 := C0.out.c0
  have s1 := C0.out.c1
  clear hk he hs ht
  go_enter Tryz.func33, Tryz.ntmps33
  go_wp2_with fail
  clear s0 s1 C0
  generalize (w.alloc (.cells #[.int .i64 (e0 : Int), .string s] 28)) = v0 at *
  refine (SE.out _ (HT.out.below A1.out)).mono ?_
  rintro e v1 ⟨⟨g, c, rfl, how⟩, hb⟩
  obtain ⟨g2, c2, -, hv, ho⟩ := own8_of_own how (by intro h; cases h)
  cases hv
  have hcv := kstr_of_code (c := c) ho.code
  rw [← HP.out] at hcv
  replace A1 : Hid (Below w.heap.size w v1) := A1.out.trans (hb.mono A1.out.size)
  have B1 : Hid (w.heap.size ≤ v1.heap.size) := A1.out.size
  clear hb how ho SE HP HT
  go_wp2
  go_ret
  exact ⟨⟨v1.heap.size, rfl, B1.out, PlanR.made v1 (P : Int) PT⟩, A1.out.alloc A1.out.size _⟩
end Go.Proofs.YtbecnaabmlkjjabGreatDoor
namespace Go.Proofs.YtbecnaabmlkjjabGreatDoor
open Go.ChangeShapes Go.WideShapes Go.ChangeAt Go.RowKit
set_option linter.unusedVariables false
theorem wp_scope_end {P : Program} {a : Act} {w : World} {Q : Exit → Act → World → Prop} {c : Code} (l : Nat) (hf : findLabel c l = some Code.skip) (h : c.wp P (Exit.jump l (fun a' w' => Q .normal a' w') Q) a w) : (Code.scope c).wp P Q a w :=
  wp_scope_jumps l (fun a' w' => Q .normal a' w') (fun _ _ => 0) hf h (fun a w hj => wp_skip hj)
def Bt (w : World) (pv : Value) (x : Int × ByteArray) : Prop := (x.1 = 0 ∧ pv = .pointer none) ∨ (x.1 ≠ 0 ∧ ∃ pb, pv = .pointer (some ⟨pb, 0, none⟩) ∧ Sl2 pb x.1 x.2 w)
theorem Bt.below {w w' : World} {pv : Value} {x : Int × ByteArray} (h : Bt w pv x) (hb : Below w.heap.size w w') : Bt w' pv x := by
  rcases h with h | ⟨h, pb, e, s⟩
  · exact .inl h
  · exact .inr ⟨h, pb, e, s.below hb⟩
set_option maxRecDepth 100000 in
set_option maxHeartbeats 4000000 in
theorem better_any (k : ByteArray) (d : Dk) (a0 a1 a2 : Option Addr) (c0 c1 c2 : Nat) (hk : k.size = 32) (hd : d.Ok) (hn : 2 ≤ d.nb) (w : World) (h : DiskV w d a0 a1 a2) (ht : Tabs w) :
    Calls Tryz.prog 28 #[.string k, .agg #[.slice a0 d.nb c0, .slice a1 d.nc c1, .slice a2 d.ns c2]] w fun e w' => (∃ pv, e = .returned pv ∧ Bt w' pv (bst k d 2)) ∧ Below w.heap.size w w' := by
  have DO : Hid (∀ w : World, DiskV w d a0 a1 a2 → Calls Tryz.prog 42 #[.agg #[.slice a0 d.nb c0, .slice a1 d.nc c1, .slice a2 d.ns c2]] w fun e w' => e = .returned (.pointer (some ⟨w.heap.size + 2, 0, none⟩)) ∧ Box4 w' (w.heap.size + 2) 77 (.slice a0 d.nb c0) (.slice a1 d.nc c1) (.slice a2 d.ns c2) (.map (some (w.heap.size + 1))) ∧ MapI w' (w.heap.size + 1) (lastM d.A d.D d.nc) ∧ Below w.heap.size w w') := fun w h => driveOf_any d a0 a1 a2 c0 c1 c2 hd.nc w h.2.1
  have SN : Hid (∀ (q dq dm : Nat) (w : World), q < 2 → Box4 w dq 77 (.slice a0 d.nb c0) (.slice a1 d.nc c1) (.slice a2 d.ns c2) (.map (some dm)) → MapI w dm (lastM d.A d.D d.nc) → DiskV w d a0 a1 a2 → Calls Tryz.prog 54 #[.pointer (some ⟨dq, 0, none⟩), .int .i64 (q : Int)] w fun e w' => e = .returned (.string (d.rd q)) ∧ Below w.heap.size w w') := fun q dq dm w hq h1 h2 h3 => stands_any d a0 c0 dq dm q _ _ (by omega) hd.nb2 w h1 h2 h3.1
  have UN : Hid (∀ (q b c : Nat) (w : World), q < 2 → (d.rd q).size ≤ c → Code8 w (some ⟨b, 0, none⟩) (d.rd q).size (strB (d.rd q)) → Tabs w → Calls Tryz.prog 53 #[.string k, .int .i64 (q : Int), .slice (some ⟨b, 0, none⟩) (d.rd q).size c] w fun e w' => e = .returned (.tuple #[.agg #[.int .i64 (opE k d q), .string (opD k d q)], .int .i64 (opC k d q)]) ∧ Below w.heap.size w w') := fun q b c w hq hc h1 h2 => unsealed_any k q _ _ c _ (strB_lt _) hk (by omega) (by have := Dk.rd_le hd q (by omega); omega) hc w h1 h2
  have OC : Hid (∀ q, (opS k d q = true → opC k d q = 0) ∧ (opS k d q = false → opC k d q = 10)) := fun q => ⟨fun h => (rd_yes h).2.2, fun h => (rd_no h).2.2⟩
  have HV : Hid (DiskV w d a0 a1 a2) := h
  have HT : Hid (Tabs w) := ht
  have A1 : Hid (Below w.heap.size w (w.alloc (.cells #[.slice a0 d.nb c0, .slice a1 d.nc c1, .slice a2 d.ns c2] 33))) := (Below.refl _ _).alloc (Nat.le_refl _) _
  have BX : Hid (Box3 (w.alloc (.cells #[.slice a0 d.nb c0, .slice a1 d.nc c1, .slice a2 d.ns c2] 33)) w.heap.size 33 (.slice a0 d.nb c0) (.slice a1 d.nc c1) (.slice a2 d.ns c2)) := Box3.made _ _ _ _ _
  have t0 := BX.out.c0
  have t1 := BX.out.c1
  have t2 := BX.out.c2
  clear h ht hk hd hn
  go_enter Tryz.func28, Tryz.ntmps28
  go_wp2_with fail
  clear t0 t1 t2 BX
  generalize (w.alloc (.cells #[.slice a0 d.nb c0, .slice a1 d.nc c1, .slice a2 d.ns c2] 33)) = v0 at *
  refine (DO.out _ (HV.out.below A1.out)).mono ?_
  rintro e v1 ⟨rfl, hq4, hmi, hb⟩
  replace A1 : Hid (Below w.heap.size w v1) := A1.out.trans (hb.mono A1.out.size)
  obtain ⟨dq, hdq⟩ : ∃ x, x = v0.heap.size + 2 := ⟨_, rfl⟩
  obtain ⟨dm, hdm⟩ : ∃ x, x = v0.heap.size + 1 := ⟨_, rfl⟩
  rw [← hdq, ← hdm] at hq4
  rw [← hdm] at hmi
  rw [← hdq]
  have Q4 : Hid (Box4 v1 dq 77 (.slice a0 d.nb c0) (.slice a1 d.nc c1) (.slice a2 d.ns c2) (.map (some dm))) := hq4
  have MI : Hid (MapI v1 dm (lastM d.A d.D d.nc)) := hmi
  clear hb hq4 hmi hdq hdm DO
  go_wp2
  go_loopw [6, 12] (fun pv i wr => ∃ q : Nat, q ≤ 2 ∧ i = .int .i64 (q : Int) ∧ Bt wr pv (bst k d q) ∧ Box4 wr dq 77 (.slice a0 d.nb c0) (.slice a1 d.nc c1) (.slice a2 d.ns c2) (.map (some dm)) ∧ MapI wr dm (lastM d.A d.D d.nc) ∧ Below w.heap.size w wr) (fun _ i _ => 2 - (intOf i).toNat)
  case atStart => exact ⟨0, by omega, rfl, .inl ⟨rfl, rfl⟩, Q4.out, MI.out, A1.out⟩
  case round =>
    clear Q4 MI A1
    obtain ⟨q, hq, rfl, bt, q4, mi, hb⟩ := hrel
    have BT : Hid (Bt wr u6 (bst k d q)) := bt
    have Q4 : Hid (Box4 wr dq 77 (.slice a0 d.nb c0) (.slice a1 d.nc c1) (.slice a2 d.ns c2) (.map (some dm))) := q4
    have MI : Hid (MapI wr dm (lastM d.A d.D d.nc)) := mi
    have A1 : Hid (Below w.heap.size w wr) := hb
    clear bt q4 mi hb
    by_cases hlt : q < 2
    · have y1 : (q : Int) < 2 := by omega
      go_wp2_with fail
      refine wp_scope_end 0 (by rfl) ?_
      go_wp2_with fail
      refine (SN.out q dq dm _ hlt Q4.out MI.out (HV.out.below A1.out)).mono ?_
      rintro e v2 ⟨rfl, hb⟩
      replace BT : Hid (Bt v2 u6 (bst k d q)) := BT.out.below hb
      replace Q4 : Hid (Box4 v2 dq 77 (.slice a0 d.nb c0) (.slice a1 d.nc c1) (.slice a2 d.ns c2) (.map (some dm))) := Q4.out.below hb
      replace MI : Hid (MapI v2 dm (lastM d.A d.D d.nc)) := MI.out.below hb
      replace A1 : Hid (Below w.heap.size w v2) := A1.out.trans (hb.mono A1.out.size)
      clear hb
      have UQ : Hid (∀ (b c : Nat) (w : World), (d.rd q).size ≤ c → Code8 w (some ⟨b, 0, none⟩) (d.rd q).size (strB (d.rd q)) → Tabs w → Calls Tryz.prog 53 #[.string k, .int .i64 (q : Int), .slice (some ⟨b, 0, none⟩) (d.rd q).size c] w fun e w' => e = .returned (.tuple #[.agg #[.int .i64 (opE k d q), .string (opD k d q)], .int .i64 (opC k d q)]) ∧ Below w.heap.size w w') := fun b c w => UN.out q b c w hlt
      have hst : bst k d (q + 1) = if opS k d q = true ∧ (bst k d q).1 < opE k d q then (opE k d q, opD k d q) else bst k d q := rfl
      have HST : Hid (bst k d (q + 1) = if opS k d q = true ∧ (bst k d q).1 < opE k d q then (opE k d q, opD k d q) else bst k d q) := hst
      have HP : Hid (opS k d q = true → 1 ≤ opE k d q) := fun h => opE_pos h
      have HN : Hid (0 ≤ (bst k d q).1) := bst_nn k d q
      have HC : Hid ((opS k d q = true → opC k d q = 0) ∧ (opS k d q = false → opC k d q = 10)) := OC.out q
      clear hst UN OC SN
      generalize d.rd q = t at *
      generalize opE k d q = E at *
      generalize opD k d q = D at *
      generalize opC k d q = C at *
      generalize opS k d q = S at *
      generalize bst k d q = X at *
      obtain ⟨v3, gc, hcv, hk3, hb, hgc⟩ := bytesOfM t v2
      replace BT : Hid (Bt v3 u6 X) := BT.out.below hb
      replace Q4 : Hid (Box4 v3 dq 77 (.slice a0 d.nb c0) (.slice a1 d.nc c1) (.slice a2 d.ns c2) (.map (some dm))) := Q4.out.below hb
      replace MI : Hid (MapI v3 dm (lastM d.A d.D d.nc)) := MI.out.below hb
      replace A1 : Hid (Below w.heap.size w v3) := A1.out.trans (hb.mono A1.out.size)
      have K3 : Hid (Code8 v3 (some ⟨v2.heap.size, 0, none⟩) t.size (strB t)) := hk3
      have GC : Hid (t.size ≤ gc) := hgc
      clear hb hk3 hgc
      go_wp2_with fail
      refine (UQ.out _ _ _ GC.out K3.out (HT.out.below A1.out)).mono ?_
      rintro e v4 ⟨rfl, hb⟩
      replace BT : Hid (Bt v4 u6 X) := BT.out.below hb
      replace Q4 : Hid (Box4 v4 dq 77 (.slice a0 d.nb c0) (.slice a1 d.nc c1) (.slice a2 d.ns c2) (.map (some dm))) := Q4.out.below hb
      replace MI : Hid (MapI v4 dm (lastM d.A d.D d.nc)) := MI.out.below hb
      replace A1 : Hid (Below w.heap.size w v4) := A1.out.trans (hb.mono A1.out.size)
      clear hb K3 GC UQ hcv
      have hb : Below v4.heap.size v4 (v4.alloc (.cells #[.int .i64 E, .string D] 28)) := (Below.refl _ _).alloc (Nat.le_refl _) _
      have S0 : Hid (Sl2 v4.heap.size E D (v4.alloc (.cells #[.int .i64 E, .string D] 28))) := Sl2.made v4 _ _ _
      replace BT : Hid (Bt (v4.alloc (.cells #[.int .i64 E, .string D] 28)) u6 X) := BT.out.below hb
      replace Q4 : Hid (Box4 (v4.alloc (.cells #[.int .i64 E, .string D] 28)) dq 77 (.slice a0 d.nb c0) (.slice a1 d.nc c1) (.slice a2 d.ns c2) (.map (some dm))) := Q4.out.below hb
      replace MI : Hid (MapI (v4.alloc (.cells #[.int .i64 E, .string D] 28)) dm (lastM d.A d.D d.nc)) := MI.out.below hb
      replace A1 : Hid (Below w.heap.size w (v4.alloc (.cells #[.int .i64 E, .string D] 28))) := A1.out.trans (hb.mono A1.out.size)
      clear hb
      cases S with
      | false =>
        obtain rfl : C = 10 := HC.out.2 rfl
        have HX : Hid (bst k d (q + 1) = X) := by show bst k d (q + 1) = X; rw [HST.out, if_neg (by simp)]
        clear HC HST HP HN
        go_wp2_with fail
        go_step3
        rename_i Qj Kj hKj
        refine And.intro rfl ?_
        go_wp2
        exact ⟨⟨q + 1, by omega, by go_num, by rw [HX.out]; exact BT.out, Q4.out, MI.out, A1.out⟩, by simp [intOf]; omega⟩
      | true =>
        obtain rfl : C = 0 := HC.out.1 rfl
        have hE : 1 ≤ E := HP.out rfl
        clear HC HP
        go_wp2_with fail
        have s0 := S0.out.c0
        rcases BT.out with ⟨h0, rfl⟩ | ⟨hne, pb, rfl, hsl⟩
        · have HX : Hid (bst k d (q + 1) = (E, D)) := by show bst k d (q + 1) = _; rw [HST.out, if_pos ⟨trivial, by omega⟩]
          clear HST HN
          go_region
          go_wp2
          refine wp_label ?_
          change Exit.inBlock 1 _ Exit.normal _ _
          have hb : Below (v4.alloc (.cells #[.int .i64 E, .string D] 28)).heap.size (v4.alloc (.cells #[.int .i64 E, .string D] 28)) (v4.alloc (.cells #[.int .i64 E, .string D] 28)).drew := (Below.refl _ _).drew
          have R : Hid (Bt (v4.alloc (.cells #[.int .i64 E, .string D] 28)).drew (.pointer (some ⟨v4.heap.size, 0, none⟩)) (E, D)) := .inr ⟨by show E ≠ 0; omega, v4.heap.size, rfl, S0.out.below hb⟩
          have Q5 := Q4.out.below hb
          have M5 := MI.out.below hb
          have A5 : Hid (Below w.heap.size w (v4.alloc (.cells #[.int .i64 E, .string D] 28)).drew) := A1.out.drew
          clear hb
          go_wp2
          exact ⟨⟨q + 1, by omega, by go_num, by rw [HX.out]; exact R.out, Q5, M5, A5.out⟩, by simp [intOf]; omega⟩
        · have b0 := hsl.c0
          by_cases hgt : X.1 < E
          · have HX : Hid (bst k d (q + 1) = (E, D)) := by show bst k d (q + 1) = _; rw [HST.out, if_pos ⟨trivial, hgt⟩]
            clear HST HN
            go_region
            go_wp2
            refine wp_label ?_
            change Exit.inBlock 1 _ Exit.normal _ _
            have hb : Below (v4.alloc (.cells #[.int .i64 E, .string D] 28)).heap.size (v4.alloc (.cells #[.int .i64 E, .string D] 28)) (v4.alloc (.cells #[.int .i64 E, .string D] 28)).drew := (Below.refl _ _).drew
            have R : Hid (Bt (v4.alloc (.cells #[.int .i64 E, .string D] 28)).drew (.pointer (some ⟨v4.heap.size, 0, none⟩)) (E, D)) := .inr ⟨by show E ≠ 0; omega, v4.heap.size, rfl, S0.out.below hb⟩
            have Q5 := Q4.out.below hb
            have M5 := MI.out.below hb
            have A5 : Hid (Below w.heap.size w (v4.alloc (.cells #[.int .i64 E, .string D] 28)).drew) := A1.out.drew
            clear hb
            go_wp2
            exact ⟨⟨q + 1, by omega, by go_num, by rw [HX.out]; exact R.out, Q5, M5, A5.out⟩, by simp [intOf]; omega⟩
          · have HX : Hid (bst k d (q + 1) = X) := by show bst k d (q + 1) = _; rw [HST.out, if_neg (fun h => hgt h.2)]
            clear HST HN
            go_region
            go_wp2
            refine wp_label ?_
            change Exit.inBlock 1 _ Exit.normal _ _
            have hb : Below (v4.alloc (.cells #[.int .i64 E, .string D] 28)).heap.size (v4.alloc (.cells #[.int .i64 E, .string D] 28)) (v4.alloc (.cells #[.int .i64 E, .string D] 28)).drew := (Below.refl _ _).drew
            have R : Hid (Bt (v4.alloc (.cells #[.int .i64 E, .string D] 28)).drew (.pointer (some ⟨pb, 0, none⟩)) X) := BT.out.below hb
            have Q5 := Q4.out.below hb
            have M5 := MI.out.below hb
            have A5 : Hid (Below w.heap.size w (v4.alloc (.cells #[.int .i64 E, .string D] 28)).drew) := A1.out.drew
            clear hb
            go_wp2
            exact ⟨⟨q + 1, by omega, by go_num, by rw [HX.out]; exact R.out, Q5, M5, A5.out⟩, by simp [intOf]; omega⟩
    · obtain rfl : q = 2 := by omega
      have y1 : ¬ ((2 : Nat) : Int) < 2 := by omega
      go_wp2
      go_ret
      exact ⟨⟨_, rfl, BT.out⟩, A1.out⟩
end Go.Proofs.YtbecnaabmlkjjabGreatDoor
namespace Go.Proofs.YtbecnaabmlkjjabGreatDoor
open Go.ChangeShapes Go.WideShapes Go.ChangeAt Go.RowKit
set_option linter.unusedVariables false
theorem sfAns_zero {k s : ByteArray} {d : Dk} (h : SfAns k s d 0) : k.size = 32 ∧ d.Ok ∧ 2 ≤ d.nb := by
  rcases h with ⟨_, h⟩ | ⟨_, _, _, h⟩ | ⟨_, _, _, _, h⟩ | ⟨h1, _, h3, h4, _⟩
  · cases h
  · cases h
  · cases h
  · exact ⟨h1, h3, h4⟩
end Go.Proofs.YtbecnaabmlkjjabGreatDoor
namespace Go.Proofs.YtbecnaabmlkjjabGreatDoor
open Go.ChangeShapes Go.WideShapes Go.ChangeAt Go.RowKit
set_option linter.unusedVariables false
theorem bst_lt (k : ByteArray) (d : Dk) : ∀ q, (bst k d q).1 < 4294967296
  | 0 => by show (0 : Int) < 4294967296; omega
  | q + 1 => by
    unfold bst
    split
    · rename_i h
      show opE k d q < 4294967296
      have h1 := (rd_yes h.1).1
      have h2 := Sha.word_lt (strB (d.rd q)) 0
      unfold opE
      rw [h1]
      omega
    · exact bst_lt k d q
def SpAns (k s : ByteArray) (d : Dk) (n : Nat) (x : Int) (t : ByteArray) (code : Int) : Prop := ∃ cf, SfAns k s d cf ∧ ((cf ≠ 0 ∧ n = 0 ∧ code = cf) ∨ (cf = 0 ∧ ¬ SlotR ((bst k d 2).1 + 1) s ∧ n = 0 ∧ code = 7) ∨ (cf = 0 ∧ SlotR ((bst k d 2).1 + 1) s ∧ n = 3 ∧ code = 0 ∧ ∃ e : Nat, (bst k d 2).1 + 1 = (e : Int) ∧ x = ((e % 2 : Nat) : Int) ∧ t = planT k e s))
theorem spAns_ex (k s : ByteArray) (d : Dk) : ∃ n x t code, SpAns k s d n x t code := by
  obtain ⟨cf, h⟩ := sfAns_ex k s d
  by_cases h0 : cf = 0
  · by_cases h1 : SlotR ((bst k d 2).1 + 1) s
    · have := bst_nn k d 2
      exact ⟨3, _, _, 0, cf, h, .inr (.inr ⟨h0, h1, rfl, rfl, ((bst k d 2).1 + 1).toNat, by omega, rfl, rfl⟩)⟩
    · exact ⟨0, 0, ⟨#[]⟩, 7, cf, h, .inr (.inl ⟨h0, h1, rfl, rfl⟩)⟩
  · exact ⟨0, 0, ⟨#[]⟩, cf, cf, h, .inl ⟨h0, rfl, rfl⟩⟩
def RetP (B : Nat) (w' : World) (e : Ending) (n : Nat) (x : Int) (t : ByteArray) (code : Int) : Prop := ∃ a c b, e = .returned (.tuple #[.slice a n c, .int .i64 code]) ∧ (n = 0 ∨ (n = 3 ∧ c = 3 ∧ a = some ⟨b, 0, none⟩ ∧ B ≤ b ∧ PlanR w' b x t))
set_option maxRecDepth 100000 in
set_option maxHeartbeats 4000000 in
theorem implPlan_any (k s : ByteArray) (d : Dk) (a0 a1 a2 : Option Addr) (c0 c1 c2 : Nat) (n : Nat) (x : Int) (t : ByteArray) (code : Int) (hr : SpAns k s d n x t code) (hs : d.nb ≤ 1048576 ∧ d.nc ≤ 1048576 ∧ d.ns ≤ 1048576) (p0 p1 : Addr) (w : World) (h : DiskV w d a0 a1 a2) (hE0 : ErrAt w 3 p0) (hE1 : ErrAt w 4 p1) (ht : Tabs w) :
    Calls Tryz.prog 13 #[.string k, .agg #[.slice a0 d.nb c0, .slice a1 d.nc c1, .slice a2 d.ns c2], .string s] w fun e w' => RetP w.heap.size w' e n x t code ∧ Below w.heap.size w w' := by
  obtain ⟨cf, hf, hr⟩ := hr
  have FA : Hid (∀ w : World, DiskV w d a0 a1 a2 → ErrAt w 3 p0 → ErrAt w 4 p1 → Calls Tryz.prog 27 #[.string k, .string s, .agg #[.slice a0 d.nb c0, .slice a1 d.nc c1, .slice a2 d.ns c2]] w fun e w' => e = .returned (.int .i64 cf) ∧ Below w.heap.size w w') := fun w h1 h2 h3 => slotsFault_any k s d a0 a1 a2 c0 c1 c2 cf hf hs p0 p1 w h1 h2 h3
  have BX : Hid (Box3 (w.alloc (.cells #[.slice a0 d.nb c0, .slice a1 d.nc c1, .slice a2 d.ns c2] 33)) w.heap.size 33 (.slice a0 d.nb c0) (.slice a1 d.nc c1) (.slice a2 d.ns c2)) := Box3.made _ _ _ _ _
  have A1 : Hid (Below w.heap.size w (w.alloc (.cells #[.slice a0 d.nb c0, .slice a1 d.nc c1, .slice a2 d.ns c2] 33))) := (Below.refl _ _).alloc (Nat.le_refl _) _
  have HV : Hid (DiskV w d a0 a1 a2) := h
  have HE : Hid (ErrAt w 3 p0 ∧ ErrAt w 4 p1) := ⟨hE0, hE1⟩
  have HT : Hid (Tabs w) := ht
  have t0 := BX.out.c0
  have t1 := BX.out.c1
  have t2 := BX.out.c2
  clear h hE0 hE1 ht
  by_cases h0 : cf = 0
  · subst h0
    obtain ⟨k1, k2, k3⟩ := sfAns_zero hf
    have BT : Hid (∀ w : World, DiskV w d a0 a1 a2 → Tabs w → Calls Tryz.prog 28 #[.string k, .agg #[.slice a0 d.nb c0, .slice a1 d.nc c1, .slice a2 d.ns c2]] w fun e w' => (∃ pv, e = .returned pv ∧ Bt w' pv (bst k d 2)) ∧ Below w.heap.size w w') := fun w h1 h2 => better_any k d a0 a1 a2 c0 c1 c2 k1 k2 k3 w h1 h2
    obtain ⟨r, hrr⟩ := bool_cases (SlotR ((bst k d 2).1 + 1) s)
    have SK : Hid (∀ w : World, Calls Tryz.prog 32 #[.agg #[.int .i64 ((bst k d 2).1 + 1), .string s]] w fun e w' => e = .returned (.bool r) ∧ Below w.heap.size w w') := fun w => implSlotOK_any _ s r hrr w
    have nn := bst_nn k d 2
    have ll := bst_lt k d 2
    have SA : Hid (∀ (e0 : Nat) (w : World), (bst k d 2).1 + 1 = (e0 : Int) → e0 < 4294967296 → s.size ≤ 170 → Tabs w → Calls Tryz.prog 33 #[.string k, .agg #[.int .i64 (e0 : Int), .string s]] w fun e w' => (∃ b, e = .returned (.slice (some ⟨b, 0, none⟩) 3 3) ∧ w.heap.size ≤ b ∧ PlanR w' b ((e0 % 2 : Nat) : Int) (planT k e0 s)) ∧ Below w.heap.size w w') := fun e0 w _ h1 h2 h3 => slotActs_any k s e0 k1 h1 h2 w h3
    have HR : Hid ((r = false ∧ n = 0 ∧ code = 7) ∨ (r = true ∧ n = 3 ∧ code = 0 ∧ ∃ e : Nat, (bst k d 2).1 + 1 = (e : Int) ∧ e < 4294967296 ∧ s.size ≤ 170 ∧ x = ((e % 2 : Nat) : Int) ∧ t = planT k e s)) := by
      rcases hr with ⟨h1, _⟩ | ⟨_, h1, h2, h3⟩ | ⟨_, h1, h2, h3, e, h4, h5, h6⟩
      · exact absurd rfl h1
      · exact .inl ⟨Bool.eq_false_iff.2 (fun h => h1 (hrr.1 h)), h2, h3⟩
      · have h7 := h1
        unfold SlotR at h7
        exact .inr ⟨hrr.2 h1, h2, h3, e, h4, by omega, h7.2.2, h5, h6⟩
    obtain ⟨X, hX⟩ : ∃ X, X = bst k d 2 := ⟨_, rfl⟩
    rw [← hX] at BT SK SA HR nn ll
    have wr1 : IntKind.i64.wrap (X.1 + 1) = X.1 + 1 := IntWalk.i64_in _ ⟨by omega, by omega⟩
    clear hf hs k1 k2 k3 hX hr hrr
    go_enter Tryz.func13, Tryz.ntmps13
    go_wp2_with fail
    clear t0 t1 t2
    generalize (w.alloc (.cells #[.slice a0 d.nb c0, .slice a1 d.nc c1, .slice a2 d.ns c2] 33)) = v0 at *
    refine (FA.out _ (HV.out.below A1.out) (HE.out.1.below A1.out) (HE.out.2.below A1.out)).mono ?_
    rintro e v1 ⟨rfl, hb⟩
    replace A1 : Hid (Below w.heap.size w v1) := A1.out.trans (hb.mono A1.out.size)
    replace BX : Hid (Box3 v1 w.heap.size 33 (.slice a0 d.nb c0) (.slice a1 d.nc c1) (.slice a2 d.ns c2)) := BX.out.below hb
    clear hb FA HE
    have hb : Below v1.heap.size v1 (v1.alloc (.cells #[.int .i64 1, .string s] 28)) := (Below.refl _ _).alloc (Nat.le_refl _) _
    have NX : Hid (Sl2 v1.heap.size 1 s (v1.alloc (.cells #[.int .i64 1, .string s] 28))) := Sl2.made v1 _ _ _
    have NL : Hid (w.heap.size ≤ v1.heap.size) := A1.out.size
    replace BX : Hid (Box3 (v1.alloc (.cells #[.int .i64 1, .string s] 28)) w.heap.size 33 (.slice a0 d.nb c0) (.slice a1 d.nc c1) (.slice a2 d.ns c2)) := BX.out.below hb
    replace A1 : Hid (Below w.heap.size w (v1.alloc (.cells #[.int .i64 1, .string s] 28))) := A1.out.trans (hb.mono A1.out.size)
    have t0 := BX.out.c0
    have t1 := BX.out.c1
    have t2 := BX.out.c2
    clear hb
    go_wp2_with fail
    clear t0 t1 t2 BX
    generalize (v1.alloc (.cells #[.int .i64 1, .string s] 28)) = v2 at *
    obtain ⟨nb, hnb⟩ : ∃ y, y = v1.heap.size := ⟨_, rfl⟩
    rw [← hnb] at NX NL ⊢
    clear hnb
    refine (BT.out _ (HV.out.below A1.out) (HT.out.below A1.out)).mono ?_
    rintro e v3 ⟨⟨pv, rfl, hbt⟩, hb⟩
    replace A1 : Hid (Below w.heap.size w v3) := A1.out.trans (hb.mono A1.out.size)
    replace NX : Hid (Sl2 nb 1 s v3) := NX.out.below hb
    have BZ : Hid (Bt v3 pv X) := hbt
    clear hb hbt BT
    have n0 := NX.out.c0
    have n1 := NX.out.c1
    have n2 := NX.out.fr 0
    rcases BZ.out with ⟨hx0, rfl⟩ | ⟨hne, pb, rfl, hsl⟩
    · have N2 : Hid (Sl2 nb (X.1 + 1) s v3) := by rw [hx0]; exact NX.out
      have n0' : v3.cell? ⟨nb, 0, none⟩ = some (.int .i64 (X.1 + 1)) := N2.out.c0
      clear n0 n2 NX hx0
      go_wp2_with fail
      clear n0' n1
      refine (SK.out _).mono ?_
      rintro e v4 ⟨rfl, hb⟩
      replace A1 : Hid (Below w.heap.size w v4) := A1.out.trans (hb.mono A1.out.size)
      have N4 := N2.out.below hb
      have m0 := N4.c0
      have m1 := N4.c1
      clear hb N4 N2 SK
      rcases HR.out with ⟨rfl, rfl, rfl⟩ | ⟨rfl, rfl, rfl, e0, he, h1, h2, rfl, rfl⟩
      · clear HR
        go_wp2
        go_ret2
        exact ⟨⟨none, 0, 0, rfl, .inl rfl⟩, A1.out⟩
      · have SB := SA.out e0
        rw [he] at m0
        have SC : Hid (∀ w : World, Tabs w → Calls Tryz.prog 33 #[.string k, .agg #[.int .i64 (e0 : Int), .string s]] w fun e w' => (∃ b, e = .returned (.slice (some ⟨b, 0, none⟩) 3 3) ∧ w.heap.size ≤ b ∧ PlanR w' b ((e0 % 2 : Nat) : Int) (planT k e0 s)) ∧ Below w.heap.size w w') := fun w h3 => SB w he h1 h2 h3
        clear HR SA SB he h1 h2
        go_wp2_with fail
        refine (SC.out _ (HT.out.below A1.out)).mono ?_
        rintro e v5 ⟨⟨b, rfl, hbb, hpl⟩, hb⟩
        have PL : Hid (PlanR v5 b ((e0 % 2 : Nat) : Int) (planT k e0 s)) := hpl
        have LB : Hid (w.heap.size ≤ b) := Nat.le_trans A1.out.size hbb
        replace A1 : Hid (Below w.heap.size w v5) := A1.out.trans (hb.mono A1.out.size)
        clear hb hpl hbb SC m0 m1
        go_wp2
        go_ret2
        exact ⟨⟨_, _, b, rfl, .inr ⟨rfl, rfl, rfl, LB.out, PL.out⟩⟩, A1.out⟩
    · have b0 := hsl.c0
      have N2 : Hid (Sl2 nb (X.1 + 1) s (v3.setCell ⟨nb, 0, none⟩ (.int .i64 (X.1 + 1)))) := NX.out.putE _
      replace A1 : Hid (Below w.heap.size w (v3.setCell ⟨nb, 0, none⟩ (.int .i64 (X.1 + 1)))) := A1.out.setCell NL.out _
      have m0 := N2.out.c0
      have m1 := N2.out.c1
      go_wp2_with fail
      clear n0 n1 n2 b0 m0 m1 hsl hne BZ NX
      generalize (v3.setCell ⟨nb, 0, none⟩ (.int .i64 (X.1 + 1))) = v3' at *
      refine (SK.out _).mono ?_
      rintro e v4 ⟨rfl, hb⟩
      replace A1 : Hid (Below w.heap.size w v4) := A1.out.trans (hb.mono A1.out.size)
      have N4 := N2.out.below hb
      have m0 := N4.c0
      have m1 := N4.c1
      clear hb N4 N2 SK
      rcases HR.out with ⟨rfl, rfl, rfl⟩ | ⟨rfl, rfl, rfl, e0, he, h1, h2, rfl, rfl⟩
      · clear HR
        go_wp2
        go_ret2
        exact ⟨⟨none, 0, 0, rfl, .inl rfl⟩, A1.out⟩
      · have SB := SA.out e0
        rw [he] at m0
        have SC : Hid (∀ w : World, Tabs w → Calls Tryz.prog 33 #[.string k, .agg #[.int .i64 (e0 : Int), .string s]] w fun e w' => (∃ b, e = .returned (.slice (some ⟨b, 0, none⟩) 3 3) ∧ w.heap.size ≤ b ∧ PlanR w' b ((e0 % 2 : Nat) : Int) (planT k e0 s)) ∧ Below w.heap.size w w') := fun w h3 => SB w he h1 h2 h3
        clear HR SA SB he h1 h2
        go_wp2_with fail
        refine (SC.out _ (HT.out.below A1.out)).mono ?_
        rintro e v5 ⟨⟨b, rfl, hbb, hpl⟩, hb⟩
        have PL : Hid (PlanR v5 b ((e0 % 2 : Nat) : Int) (planT k e0 s)) := hpl
        have LB : Hid (w.heap.size ≤ b) := Nat.le_trans A1.out.size hbb
        replace A1 : Hid (Below w.heap.size w v5) := A1.out.trans (hb.mono A1.out.size)
        clear hb hpl hbb SC m0 m1
        go_wp2
        go_ret2
        exact ⟨⟨_, _, b, rfl, .inr ⟨rfl, rfl, rfl, LB.out, PL.out⟩⟩, A1.out⟩
  · have x1 : (cf != 0) = true := by rw [bne_iff_ne]; exact h0
    obtain ⟨rfl, rfl⟩ : n = 0 ∧ code = cf := by
      rcases hr with ⟨_, h2, h3⟩ | ⟨h1, _⟩ | ⟨h1, _⟩
      · exact ⟨h2, h3⟩
      · exact absurd h1 h0
      · exact absurd h1 h0
    clear hf hs hr h0
    go_enter Tryz.func13, Tryz.ntmps13
    go_wp2_with fail
    clear t0 t1 t2
    generalize (w.alloc (.cells #[.slice a0 d.nb c0, .slice a1 d.nc c1, .slice a2 d.ns c2] 33)) = v0 at *
    refine (FA.out _ (HV.out.below A1.out) (HE.out.1.below A1.out) (HE.out.2.below A1.out)).mono ?_
    rintro e v1 ⟨rfl, hb⟩
    replace A1 : Hid (Below w.heap.size w v1) := A1.out.trans (hb.mono A1.out.size)
    clear hb BX FA
    go_wp2
    go_ret2
    exact ⟨⟨none, 0, 0, rfl, .inl rfl⟩, A1.out⟩
end Go.Proofs.YtbecnaabmlkjjabGreatDoor
namespace Go.Proofs.YtbecnaabmlkjjabGreatDoor
open Go.ChangeShapes Go.WideShapes Go.ChangeAt Go.RowKit
set_option linter.unusedVariables false
theorem markBool_nil (k : Nat) (w : World) : Calls Tryz.prog 38 #[.slice none 0 0, .int .i64 (k : Int)] w fun e w' => e = .returned (.int .i64 (k : Int)) ∧ w = w' := by
  go_enter Tryz.func38, Tryz.ntmps38
  go_wp2
  go_loopw [1, 5] (fun kv i wr => kv = .int .i64 (k : Int) ∧ i = .int .i64 0 ∧ wr = w) (fun _ _ _ => 0)
  case atStart => exact ⟨rfl, rfl, rfl⟩
  case round =>
    obtain ⟨rfl, rfl, rfl⟩ := hrel
    go_wp2
    go_ret
    exact ⟨rfl, rfl⟩
def MV (c : Nat) : Value := if c % 5 = 0 then .int .i64 ((4 * (c / 5) + 1 : Nat) : Int) else if c % 5 = 1 then .int .i64 ((4 * (c / 5) + 2 : Nat) : Int) else if c % 5 = 2 then .string (mt (4 * (c / 5) + 3)) else if c % 5 = 3 then .slice none 0 0 else .int .i64 ((4 * (c / 5) + 4 : Nat) : Int)
theorem MV0 (q : Nat) : MV (q * 5) = .int .i64 ((4 * q + 1 : Nat) : Int) := by unfold MV; rw [if_pos (by omega), show q * 5 / 5 = q from by omega]
theorem MV1 (q : Nat) : MV (q * 5 + 1) = .int .i64 ((4 * q + 2 : Nat) : Int) := by unfold MV; rw [if_neg (by omega), if_pos (by omega), show (q * 5 + 1) / 5 = q from by omega]
theorem MV2 (q : Nat) : MV (q * 5 + 2) = .string (mt (4 * q + 3)) := by unfold MV; rw [if_neg (by omega), if_neg (by omega), if_pos (by omega), show (q * 5 + 2) / 5 = q from by omega]
theorem MV3 (q : Nat) : MV (q * 5 + 3) = .slice none 0 0 := by unfold MV; rw [if_neg (by omega), if_neg (by omega), if_neg (by omega), if_pos (by omega)]
theorem MV4 (q : Nat) : MV (q * 5 + 4) = .int .i64 ((4 * q + 4 : Nat) : Int) := by unfold MV; rw [if_neg (by omega), if_neg (by omega), if_neg (by omega), if_neg (by omega), show (q * 5 + 4) / 5 = q from by omega]
structure MrkR (w : World) (g n q : Nat) (F : Nat → Value) : Prop where
  row : w.rowIs g 64 (n * 5) F
  done : ∀ c, c < q * 5 → F c = MV c
  keep : ∀ i, i < n → F (i * 5 + 3) = .slice none 0 0
theorem PlanR.mrk {w : World} {b : Nat} {x : Int} {t : ByteArray} (h : PlanR w b x t) : ∃ F, MrkR w b 3 0 F := ⟨_, h, fun c hc => absurd hc (by omega), fun i hi => by
  rcases (show i = 0 ∨ i = 1 ∨ i = 2 by omega) with rfl | rfl | rfl <;> rfl⟩
structure MidR (w : World) (g n q o : Nat) (F : Nat → Value) : Prop where
  row : w.rowIs g 64 (n * 5) F
  done : ∀ c, c < q * 5 + o → F c = MV c
  keep : ∀ i, i < n → F (i * 5 + 3) = .slice none 0 0
theorem MidR.step {w : World} {g n q o : Nat} {F : Nat → Value} (h : MidR w g n q o F) (v : Value) (hv : MV (q * 5 + o) = v) (h3 : o ≠ 3) (ho : o < 5) : ∃ G, MidR (w.setCell ⟨g, q * 5 + o, none⟩ v) g n q (o + 1) G := ⟨_, h.row.set (q * 5 + o) v, fun c hc => by
  by_cases e : c = q * 5 + o
  · simp only [e, if_true]; exact hv.symm
  · simp only [if_neg e]; exact h.done c (by omega), fun i hi => by
  simp only [if_neg (show ¬ i * 5 + 3 = q * 5 + o by omega)]; exact h.keep i hi⟩
theorem MidR.skip {w : World} {g n q : Nat} {F : Nat → Value} (h : MidR w g n q 3 F) (hq : q < n) : MidR w g n q 4 F := ⟨h.row, fun c hc => by
  by_cases e : c = q * 5 + 3
  · subst e; rw [h.keep q hq, MV3]
  · exact h.done c (by omega), h.keep⟩
theorem MrkR.mid {w : World} {g n q : Nat} {F : Nat → Value} (h : MrkR w g n q F) : MidR w g n q 0 F := ⟨h.row, h.done, h.keep⟩
theorem MidR.next {w : World} {g n q : Nat} {F : Nat → Value} (h : MidR w g n q 5 F) : MrkR w g n (q + 1) F := ⟨h.row, fun c hc => h.done c (by omega), h.keep⟩
theorem MidR.below {w w' : World} {g n q o : Nat} {F : Nat → Value} (h : MidR w g n q o F) (hb : Below w.heap.size w w') : MidR w' g n q o F := ⟨h.row.of_block (hb.block g (World.rowIs.lt h.row)), h.done, h.keep⟩
set_option maxRecDepth 100000 in
set_option maxHeartbeats 4000000 in
theorem markActs_any (g n c : Nat) (F0 : Nat → Value) (hn : n ≤ 1000) (w : World) (h : MrkR w g n 0 F0) :
    Calls Tryz.prog 16 #[.slice (some ⟨g, 0, none⟩) n c, .int .i64 1] w fun e w' => e = .returned (.int .i64 ((4 * n + 1 : Nat) : Int)) ∧ w'.rowIs g 64 (n * 5) MV ∧ OnlyB g w w' := by
  have MT : Hid (∀ (k : Nat) (w : World), 1 ≤ k → k ≤ 100000000 → Calls Tryz.prog 37 #[.int .i64 (k : Int)] w fun e w' => e = .returned (.string (mt k)) ∧ Below w.heap.size w w') := fun k w h1 h2 => markText_any k h1 h2 w
  have MB : Hid (∀ (k : Nat) (w : World), Calls Tryz.prog 38 #[.slice none 0 0, .int .i64 (k : Int)] w fun e w' => e = .returned (.int .i64 (k : Int)) ∧ w = w') := fun k w => markBool_nil k w
  have HM : Hid (MrkR w g n 0 F0) := h
  clear h
  go_enter Tryz.func16, Tryz.ntmps16
  go_wp2
  go_loopw [1, 5] (fun kv i wr => ∃ (q : Nat) (F : Nat → Value), q ≤ n ∧ i = .int .i64 (q : Int) ∧ kv = .int .i64 ((4 * q + 1 : Nat) : Int) ∧ MrkR wr g n q F ∧ OnlyB g w wr) (fun _ i _ => n - (intOf i).toNat)
  case atStart => exact ⟨0, F0, by omega, rfl, rfl, HM.out, OnlyB.refl _ _⟩
  case round =>
    clear HM
    obtain ⟨q, F, hq, rfl, rfl, hm, ho⟩ := hrel
    have HM : Hid (MrkR wr g n q F) := hm
    have HO : Hid (OnlyB g w wr) := ho
    clear hm ho
    by_cases hlt : q < n
    · have y0 : (0 : Int) ≤ (q : Int) := by omega
      have y1 : (q : Int) < (n : Int) := by omega
      have c0 := HM.out.row.cell (i := q * 5) (by omega)
      have c1 := HM.out.row.cell (i := q * 5 + 1) (by omega)
      have f0 := HM.out.row.frozen (q * 5)
      have f1 := HM.out.row.frozen (q * 5 + 1)
      have k1 : ((4 * q + 1 : Nat) : Int) + 1 = ((4 * q + 2 : Nat) : Int) := by omega
      have k2 : ((4 * q + 2 : Nat) : Int) + 1 = ((4 * q + 3 : Nat) : Int) := by omega
      have k3 : ((4 * q + 3 : Nat) : Int) + 1 = ((4 * q + 4 : Nat) : Int) := by omega
      have k4 : ((4 * q + 4 : Nat) : Int) + 1 = ((4 * (q + 1) + 1 : Nat) : Int) := by omega
      have MT3 : Hid (∀ w : World, Calls Tryz.prog 37 #[.int .i64 ((4 * q + 3 : Nat) : Int)] w fun e w' => e = .returned (.string (mt (4 * q + 3))) ∧ Below w.heap.size w w') := fun w => MT.out (4 * q + 3) w (by omega) (by omega)
      have MB3 : Hid (∀ w : World, Calls Tryz.prog 38 #[.slice none 0 0, .int .i64 ((4 * q + 4 : Nat) : Int)] w fun e w' => e = .returned (.int .i64 ((4 * q + 4 : Nat) : Int)) ∧ w = w') := fun w => MB.out (4 * q + 4) w
      have v0 := MV0 q
      have v1 := MV1 q
      have v2 := MV2 q
      have v3 := MV3 q
      have v4 := MV4 q
      have lt5 : q * 5 + 4 < n * 5 := by omega
      clear MT MB
      generalize ((4 * q + 1 : Nat) : Int) = KA at *
      generalize ((4 * q + 2 : Nat) : Int) = KB at *
      generalize ((4 * q + 3 : Nat) : Int) = KC at *
      generalize ((4 * q + 4 : Nat) : Int) = KD at *
      generalize hE : ((4 * (q + 1) + 1 : Nat) : Int) = KE at *
      generalize mt (4 * q + 3) = M at *
      have V : Hid (MV (q * 5) = .int .i64 KA ∧ MV (q * 5 + 1) = .int .i64 KB ∧ MV (q * 5 + 2) = .string M ∧ MV (q * 5 + 3) = .slice none 0 0 ∧ MV (q * 5 + 4) = .int .i64 KD) := ⟨v0, v1, v2, v3, v4⟩
      obtain ⟨F1, hm1⟩ := HM.out.mid.step (.int .i64 KA) v0 (by omega) (by omega)
      obtain ⟨F2, hm2⟩ := hm1.step (.int .i64 KB) v1 (by omega) (by omega)
      have R2 : Hid (MidR ((wr.setCell ⟨g, q * 5, none⟩ (.int .i64 KA)).setCell ⟨g, q * 5 + 1, none⟩ (.int .i64 KB)) g n q 2 F2) := hm2
      have O2 : Hid (OnlyB g w ((wr.setCell ⟨g, q * 5, none⟩ (.int .i64 KA)).setCell ⟨g, q * 5 + 1, none⟩ (.int .i64 KB))) := (HO.out.setCell _ _).setCell _ _
      clear v0 v1 v2 v3 v4 HO hm1 hm2 HM
      go_wp2_with fail
      clear c0 c1 f0 f1
      generalize ((wr.setCell ⟨g, q * 5, none⟩ (.int .i64 KA)).setCell ⟨g, q * 5 + 1, none⟩ (.int .i64 KB)) = u0 at *
      refine (MT3.out u0).mono ?_
      rintro e u1 ⟨rfl, hb⟩
      have R3 := R2.out.below hb
      have O3 : Hid (OnlyB g w u1) := O2.out.below hb
      clear R2 O2 hb MT3
      have c2 := R3.row.cell (i := q * 5 + 2) (by omega)
      have f2 := R3.row.frozen (q * 5 + 2)
      obtain ⟨F3, hm3⟩ := R3.step (.string M) V.out.2.2.1 (by omega) (by omega)
      have c3 := hm3.row.cell (i := q * 5 + 3) (by omega)
      rw [hm3.keep q hlt] at c3
      have f3 := hm3.row.frozen (q * 5 + 3)
      have R4 : Hid (MidR (u1.setCell ⟨g, q * 5 + 2, none⟩ (.string M)) g n q 4 F3) := hm3.skip hlt
      have O4 : Hid (OnlyB g w (u1.setCell ⟨g, q * 5 + 2, none⟩ (.string M))) := O3.out.setCell _ _
      clear hm3 R3 O3
      go_wp2_with fail
      clear c2 c3 f2 f3
      generalize (u1.setCell ⟨g, q * 5 + 2, none⟩ (.string M)) = u2 at *
      refine (MB3.out _).mono ?_
      rintro e u3 ⟨rfl, rfl⟩
      clear MB3
      have c4 := R4.out.row.cell (i := q * 5 + 4) (by omega)
      have f4 := R4.out.row.frozen (q * 5 + 4)
      obtain ⟨F4, hm4⟩ := R4.out.step (.int .i64 KD) V.out.2.2.2.2 (by omega) (by omega)
      have R5 : Hid (MidR (u2.setCell ⟨g, q * 5 + 4, none⟩ (.int .i64 KD)) g n q 5 F4) := hm4
      have O5 : Hid (OnlyB g w (u2.setCell ⟨g, q * 5 + 4, none⟩ (.int .i64 KD))) := O4.out.setCell _ _
      clear hm4 R4 O4
      go_wp2
      go_roundw
      case rel => exact ⟨q + 1, F4, by omega, by go_num, by rw [hE], R5.out.next, O5.out⟩
      case measure => simp [intOf]; omega
    · obtain rfl : q = n := by omega
      have y1 : ¬ (q : Int) < (q : Int) := by omega
      have R : Hid (wr.rowIs g 64 (q * 5) MV) := HM.out.row.congr (fun c hc => HM.out.done c hc)
      clear HM
      go_wp2
      go_ret
      exact ⟨rfl, R.out, HO.out⟩
end Go.Proofs.YtbecnaabmlkjjabGreatDoor
namespace Go.Proofs.YtbecnaabmlkjjabGreatDoor
open Go.ChangeShapes Go.WideShapes Go.ChangeAt Go.RowKit
set_option linter.unusedVariables false
def AcV (w : World) (g n : Nat) (K X T : Nat → Int) (S : Nat → ByteArray) : Prop := ∀ i, i < n → w.cell? ⟨g, i * 5, none⟩ = some (.int .i64 (K i)) ∧ w.cell? ⟨g, i * 5 + 1, none⟩ = some (.int .i64 (X i)) ∧ w.cell? ⟨g, i * 5 + 2, none⟩ = some (.string (S i)) ∧ w.cell? ⟨g, i * 5 + 3, none⟩ = some (.slice none 0 0) ∧ w.cell? ⟨g, i * 5 + 4, none⟩ = some (.int .i64 (T i))
theorem AcV.below {w w' : World} {g n : Nat} {K X T : Nat → Int} {S : Nat → ByteArray} (h : AcV w g n K X T S) (hb : Below w.heap.size w w') : AcV w' g n K X T S := fun i hi => by
  have e := hb.block g (strBlock (h i hi).2.2.1)
  obtain ⟨h0, h1, h2, h3, h4⟩ := h i hi
  exact ⟨(World.cell?_of_block (w := w) e).trans h0, (World.cell?_of_block (w := w) e).trans h1, (World.cell?_of_block (w := w) e).trans h2, (World.cell?_of_block (w := w) e).trans h3, (World.cell?_of_block (w := w) e).trans h4⟩
def plK (i : Nat) : Int := if i = 1 then 1 else 2
def plX (x : Int) (i : Nat) : Int := if i = 1 then x else 0
def plS (t : ByteArray) (i : Nat) : ByteArray := if i = 1 then t else ⟨#[]⟩
theorem PlanR.acs {w : World} {b : Nat} {x : Int} {t : ByteArray} (h : PlanR w b x t) : AcV w b 3 plK (plX x) (fun _ => 0) (plS t) := fun i hi => by
  rcases (show i = 0 ∨ i = 1 ∨ i = 2 by omega) with rfl | rfl | rfl
  · exact ⟨h.cell 0 (by omega), h.cell 1 (by omega), h.cell 2 (by omega), h.cell 3 (by omega), h.cell 4 (by omega)⟩
  · exact ⟨h.cell 5 (by omega), h.cell 6 (by omega), h.cell 7 (by omega), h.cell 8 (by omega), h.cell 9 (by omega)⟩
  · exact ⟨h.cell 10 (by omega), h.cell 11 (by omega), h.cell 12 (by omega), h.cell 13 (by omega), h.cell 14 (by omega)⟩
theorem acs_mv {w : World} {g n : Nat} (h : w.rowIs g 64 (n * 5) MV) : AcV w g n (fun i => ((4 * i + 1 : Nat) : Int)) (fun i => ((4 * i + 2 : Nat) : Int)) (fun i => ((4 * i + 4 : Nat) : Int)) (fun i => mt (4 * i + 3)) := fun i hi =>
  ⟨(h.cell (by omega)).trans (by rw [MV0]), (h.cell (by omega)).trans (by rw [MV1]), (h.cell (by omega)).trans (by rw [MV2]), (h.cell (by omega)).trans (by rw [MV3]), (h.cell (by omega)).trans (by rw [MV4])⟩
theorem eqBool_nil (w : World) : Calls Tryz.prog 58 #[.slice none 0 0, .slice none 0 0] w fun e w' => e = .returned (.bool true) ∧ w = w' := by
  go_enter Tryz.func58, Tryz.ntmps58
  go_wp2
  go_loopw [5] (fun i wr => i = .int .i64 0 ∧ wr = w) (fun _ _ => 0)
  case atStart => exact ⟨rfl, rfl⟩
  case round =>
    obtain ⟨rfl, rfl⟩ := hrel
    go_wp2
    go_ret
    exact ⟨rfl, rfl⟩
theorem heldBool_nil (k : Nat) (w : World) : Calls Tryz.prog 39 #[.slice none 0 0, .int .i64 (k : Int)] w fun e w' => e = .returned (.int .i64 (k : Int)) ∧ w = w' := by
  go_enter Tryz.func39, Tryz.ntmps39
  go_wp2
  go_loopw [1, 5] (fun kv i wr => kv = .int .i64 (k : Int) ∧ i = .int .i64 0 ∧ wr = w) (fun _ _ _ => 0)
  case atStart => exact ⟨rfl, rfl, rfl⟩
  case round =>
    obtain ⟨rfl, rfl, rfl⟩ := hrel
    go_wp2
    go_ret
    exact ⟨rfl, rfl⟩
set_option maxRecDepth 100000 in
set_option maxHeartbeats 1000000 in
theorem eqAct_flat (k x t : Int) (s : ByteArray) (w : World) :
    Calls Tryz.prog 34 #[.agg #[.int .i64 k, .int .i64 x, .string s, .slice none 0 0, .int .i64 t], .agg #[.int .i64 k, .int .i64 x, .string s, .slice none 0 0, .int .i64 t]] w fun e w' => e = .returned (.bool true) ∧ Below w.heap.size w w' := by
  have e1 : (k != k) = false := by simp
  have e2 : (x != x) = false := by simp
  have e3 : (t != t) = false := by simp
  have EB : Hid (∀ w : World, Calls Tryz.prog 58 #[.slice none 0 0, .slice none 0 0] w fun e w' => e = .returned (.bool true) ∧ w = w') := eqBool_nil
  have A1 : Hid (Below w.heap.size w ((w.alloc (.cells #[.int .i64 k, .int .i64 x, .string s, .slice none 0 0, .int .i64 t] 64)).alloc (.cells #[.int .i64 k, .int .i64 x, .string s, .slice none 0 0, .int .i64 t] 64))) := ((Below.refl w.heap.size w).alloc (Nat.le_refl _) _).alloc (by simp) _
  go_enter Tryz.func34, Tryz.ntmps34
  go_wp2_with fail
  refine (EB.out _).mono ?_
  rintro e w1 ⟨rfl, rfl⟩
  clear EB
  go_wp2
  go_ret
  exact ⟨rfl, A1.out⟩
set_option maxRecDepth 100000 in
set_option maxHeartbeats 2000000 in
theorem eqActs_flat (g b n c d : Nat) (K X T : Nat → Int) (S : Nat → ByteArray) (w : World) (h : AcV w g n K X T S) (h' : AcV w b n K X T S) (hn : n ≤ 1048576) :
    Calls Tryz.prog 14 #[.slice (some ⟨g, 0, none⟩) n c, .slice (some ⟨b, 0, none⟩) n d] w fun e w' => e = .returned (.bool true) ∧ Below w.heap.size w w' := by
  have HA : Hid (AcV w g n K X T S) := h
  have HA' : Hid (AcV w b n K X T S) := h'
  have hne : ((n : Int) != (n : Int)) = false := by simp
  clear h h'
  go_enter Tryz.func14, Tryz.ntmps14
  go_wp2
  go_loopw [5] (fun i wr => ∃ k : Nat, k ≤ n ∧ i = .int .i64 k ∧ Below w.heap.size w wr) (fun i _ => n - (intOf i).toNat)
  case atStart => exact ⟨0, by omega, rfl, Below.refl _ _⟩
  case round =>
    obtain ⟨k, hk, rfl, hb⟩ := hrel
    have HB : Hid (Below w.heap.size w wr) := hb
    by_cases hlt : k < n
    · obtain ⟨c0, c1, c2, c3, c4⟩ := HA.out.below hb k hlt
      obtain ⟨d0, d1, d2, d3, d4⟩ := HA'.out.below hb k hlt
      have hlt' : (k : Int) < (n : Int) := by omega
      have EP : Hid (∀ w : World, Calls Tryz.prog 34 #[.agg #[.int .i64 (K k), .int .i64 (X k), .string (S k), .slice none 0 0, .int .i64 (T k)], .agg #[.int .i64 (K k), .int .i64 (X k), .string (S k), .slice none 0 0, .int .i64 (T k)]] w fun e w' => e = .returned (.bool true) ∧ Below w.heap.size w w') := eqAct_flat (K k) (X k) (T k) (S k)
      clear hb
      generalize K k = Kk at *
      generalize X k = Xk at *
      generalize T k = Tk at *
      generalize S k = Sk at *
      go_wp2_with fail
      go_region_with (go_at_call 34; refine (EP.out _).mono ?_; rintro e w' ⟨rfl, hb⟩)
      all_goals
        have B1 : Hid (Below w.heap.size w w') := HB.out.drew.trans (hb.mono HB.out.size)
        clear hb HB EP c0 c1 c2 c3 c4 d0 d1 d2 d3 d4
        dsimp only [Act.put]
        go_wp2
        go_roundw
        case rel => exact ⟨k + 1, by omega, by go_num, B1.out⟩
        case measure => simp [intOf]; omega
    · go_wp2
      go_ret
      exact ⟨rfl, HB.out⟩
theorem eqActs_nil (a b : Option Addr) (c d : Nat) (w : World) :
    Calls Tryz.prog 14 #[.slice a 0 c, .slice b 0 d] w fun e w' => e = .returned (.bool true) ∧ Below w.heap.size w w' := by
  go_enter Tryz.func14, Tryz.ntmps14
  go_wp2
  go_loopw [5] (fun i wr => i = .int .i64 0 ∧ wr = w) (fun _ _ => 0)
  case atStart => exact ⟨rfl, rfl⟩
  case round =>
    obtain ⟨rfl, rfl⟩ := hrel
    go_wp2
    go_ret
    exact ⟨rfl, Below.refl _ _⟩
theorem markActs_nil (a : Option Addr) (c : Nat) (w : World) :
    Calls Tryz.prog 16 #[.slice a 0 c, .int .i64 1] w fun e w' => e = .returned (.int .i64 1) ∧ w = w' := by
  go_enter Tryz.func16, Tryz.ntmps16
  go_wp2
  go_loopw [1, 5] (fun kv i wr => kv = .int .i64 1 ∧ i = .int .i64 0 ∧ wr = w) (fun _ _ _ => 0)
  case atStart => exact ⟨rfl, rfl, rfl⟩
  case round =>
    obtain ⟨rfl, rfl, rfl⟩ := hrel
    go_wp2
    go_ret
    exact ⟨rfl, rfl⟩
theorem heldActs_nil (a : Option Addr) (c : Nat) (w : World) :
    Calls Tryz.prog 17 #[.slice a 0 c, .int .i64 1] w fun e w' => e = .returned (.int .i64 1) ∧ Below w.heap.size w w' := by
  go_enter Tryz.func17, Tryz.ntmps17
  go_wp2
  go_loopw [1, 5] (fun kv i wr => kv = .int .i64 1 ∧ i = .int .i64 0 ∧ wr = w) (fun _ _ _ => 0)
  case atStart => exact ⟨rfl, rfl, rfl⟩
  case round =>
    obtain ⟨rfl, rfl, rfl⟩ := hrel
    go_wp2
    go_ret
    exact ⟨rfl, Below.refl _ _⟩
set_option maxRecDepth 100000 in
set_option maxHeartbeats 4000000 in
theorem heldActs_any (g n c : Nat) (hn : n ≤ 1000) (w : World) (h : w.rowIs g 64 (n * 5) MV) :
    Calls Tryz.prog 17 #[.slice (some ⟨g, 0, none⟩) n c, .int .i64 1] w fun e w' => e = .returned (.int .i64 ((4 * n + 1 : Nat) : Int)) ∧ Below w.heap.size w w' := by
  have HA : Hid (AcV w g n (fun i => ((4 * i + 1 : Nat) : Int)) (fun i => ((4 * i + 2 : Nat) : Int)) (fun i => ((4 * i + 4 : Nat) : Int)) (fun i => mt (4 * i + 3))) := acs_mv h
  have MT : Hid (∀ (k : Nat) (w : World), 1 ≤ k → k ≤ 100000000 → Calls Tryz.prog 37 #[.int .i64 (k : Int)] w fun e w' => e = .returned (.string (mt k)) ∧ Below w.heap.size w w') := fun k w h1 h2 => markText_any k h1 h2 w
  have MB : Hid (∀ (k : Nat) (w : World), Calls Tryz.prog 39 #[.slice none 0 0, .int .i64 (k : Int)] w fun e w' => e = .returned (.int .i64 (k : Int)) ∧ w = w') := fun k w => heldBool_nil k w
  clear h
  go_enter Tryz.func17, Tryz.ntmps17
  go_wp2
  go_loopw [1, 5] (fun kv i wr => ∃ q : Nat, q ≤ n ∧ i = .int .i64 (q : Int) ∧ kv = .int .i64 ((4 * q + 1 : Nat) : Int) ∧ Below w.heap.size w wr) (fun _ i _ => n - (intOf i).toNat)
  case atStart => exact ⟨0, by omega, rfl, rfl, Below.refl _ _⟩
  case round =>
    obtain ⟨q, hq, rfl, rfl, hb⟩ := hrel
    have HB : Hid (Below w.heap.size w wr) := hb
    by_cases hlt : q < n
    · have AV := HA.out.below hb
      obtain ⟨c0, c1, c2, c3, c4⟩ := AV q hlt
      dsimp only at c0 c1 c2 c3 c4
      have y1 : (q : Int) < (n : Int) := by omega
      have k1 : ((4 * q + 1 : Nat) : Int) + 1 = ((4 * q + 2 : Nat) : Int) := by omega
      have k2 : ((4 * q + 2 : Nat) : Int) + 1 = ((4 * q + 3 : Nat) : Int) := by omega
      have k3 : ((4 * q + 3 : Nat) : Int) + 1 = ((4 * q + 4 : Nat) : Int) := by omega
      have k4 : ((4 * q + 4 : Nat) : Int) + 1 = ((4 * (q + 1) + 1 : Nat) : Int) := by omega
      have n4 : ¬ ((4 * q + 4 : Nat) : Int) < 0 := by omega
      have r1 : (((4 * q + 1 : Nat) : Int) != ((4 * q + 1 : Nat) : Int)) = false := by simp
      have r2 : (((4 * q + 2 : Nat) : Int) != ((4 * q + 2 : Nat) : Int)) = false := by simp
      have r4 : (((4 * q + 4 : Nat) : Int) != ((4 * q + 4 : Nat) : Int)) = false := by simp
      have w1 : ((4 * q + 4 : Nat) : Int) ≤ 10000000 := by omega
      have MT3 : Hid (∀ w : World, Calls Tryz.prog 37 #[.int .i64 ((4 * q + 3 : Nat) : Int)] w fun e w' => e = .returned (.string (mt (4 * q + 3))) ∧ Below w.heap.size w w') := fun w => MT.out (4 * q + 3) w (by omega) (by omega)
      have MB3 : Hid (∀ w : World, Calls Tryz.prog 39 #[.slice none 0 0, .int .i64 ((4 * q + 4 : Nat) : Int)] w fun e w' => e = .returned (.int .i64 ((4 * q + 4 : Nat) : Int)) ∧ w = w') := fun w => MB.out (4 * q + 4) w
      have o1 : (0 : Int) ≤ ((4 * q + 1 : Nat) : Int) := by omega
      clear MT MB
      generalize ((4 * q + 1 : Nat) : Int) = KA at *
      generalize ((4 * q + 2 : Nat) : Int) = KB at *
      generalize ((4 * q + 3 : Nat) : Int) = KC at *
      generalize ((4 * q + 4 : Nat) : Int) = KD at *
      generalize hE : ((4 * (q + 1) + 1 : Nat) : Int) = KE at *
      generalize mt (4 * q + 3) = M at *
      have C2 : Hid (wr.drew.cell? ⟨g, q * 5 + 2, none⟩ = some (.string M)) := c2
      have C3 : Hid (wr.drew.cell? ⟨g, q * 5 + 3, none⟩ = some (.slice none 0 0)) := c3
      have C4 : Hid (wr.drew.cell? ⟨g, q * 5 + 4, none⟩ = some (.int .i64 KD)) := c4
      have gb : Hid (g < wr.drew.heap.size) := strBlock C2.out
      clear AV hb c3 c4
      go_wp2_with fail
      go_region_with (go_at_call 37; refine (MT3.out _).mono ?_; rintro e w' ⟨rfl, hb⟩; have e2 : w'.cell? ⟨g, q * 5 + 2, none⟩ = some (.string M) := (hb.cell gb.out).trans C2.out)
      all_goals
        have B1 : Hid (Below w.heap.size w w') := HB.out.drew.trans (hb.mono HB.out.size)
        have e3 : w'.cell? ⟨g, q * 5 + 3, none⟩ = some (.slice none 0 0) := (hb.cell gb.out).trans C3.out
        have e4 : w'.cell? ⟨g, q * 5 + 4, none⟩ = some (.int .i64 KD) := (hb.cell gb.out).trans C4.out
        clear hb HB MT3 c0 c1 c2 C2 C3 C4 gb
        dsimp only [Act.put]
        go_wp2_with fail
        refine (MB3.out _).mono ?_
        rintro e w2 ⟨rfl, rfl⟩
        clear MB3
        go_wp2
        go_roundw
        case rel => exact ⟨q + 1, by omega, by go_num, by rw [hE], B1.out⟩
        case measure => simp [intOf]; omega
    · obtain rfl : q = n := by omega
      clear hb
      go_wp2
      go_ret
      exact ⟨rfl, HB.out⟩
end Go.Proofs.YtbecnaabmlkjjabGreatDoor
