/-
  Texts of the proof, joined: SlotO, SlotF, Better.
-/
import Derived.Test.YtbecnaabmlkjjabGreatDoorP30
import Derived.Test.YtbecnaabmlkjjabGreatDoorP33
import Derived.ScopeJumps
namespace Go.Proofs.YtbecnaabmlkjjabGreatDoor
open Go.ChangeShapes Go.WideShapes Go.ChangeAt Go.RowKit
set_option linter.unusedVariables false
theorem Sl2.putE {b : Nat} {ep : Int} {d : ByteArray} {w : World} (h : Sl2 b ep d w) (x : Int) : Sl2 b x d (w.setCell ⟨b, 0, none⟩ (.int .i64 x)) := ⟨World.cell?_setCell_same _ _ _ (by rw [h.c0]), (World.cell?_setCell_other _ ⟨b, 0, none⟩ ⟨b, 1, none⟩ _ (fun q => by have := congrArg Addr.off q; simp at this)).trans h.c1, fun i => by rw [World.frozen?_setCell]; exact h.fr i, by simpa using h.lt⟩
theorem rdF_le (A : Nat → Int) (D : Nat → ByteArray) (b : ByteArray) (x : Int) (hb : b.size ≤ 200) : ∀ k, (∀ i, i < k → (D i).size ≤ 200) → (rdF A D b x k).size ≤ 200
  | 0, _ => hb
  | k + 1, h => by
    unfold rdF
    split
    · exact h k (by omega)
    · exact rdF_le A D b x hb k (fun i hi => h i (by omega))
theorem Dk.rd_le {d : Dk} (hd : d.Ok) (x : Nat) (hx : x < d.nb) : (d.rd x).size ≤ 200 := rdF_le _ _ _ _ (hd.B x hx) _ (fun i hi => (hd.C i hi).2)
/-- What block q reads as a slot of place q: whether it opens, its epoch, its data. -/
def opS (k : ByteArray) (d : Dk) (q : Nat) : Bool := rdS k q (d.rd q).size (strB (d.rd q))
def opE (k : ByteArray) (d : Dk) (q : Nat) : Int := rdE k q (d.rd q).size (strB (d.rd q))
def opD (k : ByteArray) (d : Dk) (q : Nat) : ByteArray := rdD k q (d.rd q).size (strB (d.rd q))
def opC (k : ByteArray) (d : Dk) (q : Nat) : Int := rdC k q (d.rd q).size (strB (d.rd q))
/-- The better slot of the first q places. -/
def bst (k : ByteArray) (d : Dk) : Nat → Int × ByteArray
  | 0 => (0, ⟨#[]⟩)
  | q + 1 => if opS k d q = true ∧ (bst k d q).1 < opE k d q then (opE k d q, opD k d q) else bst k d q
theorem opE_pos {k : ByteArray} {d : Dk} {q : Nat} (h : opS k d q = true) : 1 ≤ opE k d q := by
  have h1 := (rd_yes h).1
  unfold opS at h
  unfold rdS at h
  rw [Bool.and_eq_true, Bool.and_eq_true, decide_eq_true_iff, decide_eq_true_iff] at h
  show 1 ≤ rdE k q (d.rd q).size (strB (d.rd q))
  rw [h1]
  have := h.2.2.1
  omega
theorem bst_nn (k : ByteArray) (d : Dk) : ∀ q, 0 ≤ (bst k d q).1
  | 0 => Int.le_refl _
  | q + 1 => by
    unfold bst
    split
    · rename_i h
      have := opE_pos h.1
      show 0 ≤ opE k d q
      omega
    · exact bst_nn k d q
set_option maxRecDepth 100000 in
set_option maxHeartbeats 4000000 in
theorem l06Open_any (k : ByteArray) (d : Dk) (a0 a1 a2 : Option Addr) (c0 c1 c2 : Nat) (hk : k.size = 32) (hd : d.Ok) (hn : 2 ≤ d.nb) (w : World) (h : DiskV w d a0 a1 a2) :
    Calls Tryz.prog 24 #[.string k, .agg #[.slice a0 d.nb c0, .slice a1 d.nc c1, .slice a2 d.ns c2]] w fun e w' => e = .returned (.agg #[.int .i64 (bst k d 2).1, .string (bst k d 2).2]) ∧ Below w.heap.size w w' := by
  have RD : Hid (∀ (q : Nat) (w : World), q < 2 → DiskV w d a0 a1 a2 → Calls Tryz.prog 50 #[.agg #[.slice a0 d.nb c0, .slice a1 d.nc c1, .slice a2 d.ns c2], .int .i64 (q : Int)] w fun e w' => e = .returned (.string (d.rd q)) ∧ Below w.heap.size w w') := fun q w hq h => l05Read_any d a0 a1 a2 c0 c1 c2 q (by omega) hd.nb2 hd.nc w h
  have RS : Hid (∀ (q : Nat) (w : World), q < 2 → Calls Tryz.prog 49 #[.string k, .int .i64 (q : Int), .string (d.rd q)] w fun e w' => e = .returned (.tuple #[.agg #[.int .i64 (opE k d q), .string (opD k d q)], .bool (opS k d q)]) ∧ Below w.heap.size w w') := fun q w hq => l06Read_any k q (d.rd q) hk (by omega) (by have := Dk.rd_le hd q (by omega); omega) w
  have HV : Hid (DiskV w d a0 a1 a2) := h
  have A1 : Below w.heap.size w (((w.alloc (.cells #[.slice a0 d.nb c0, .slice a1 d.nc c1, .slice a2 d.ns c2] 33)).alloc (.cells #[.int .i64 0, .string ⟨#[]⟩] 28)).alloc (.cells #[.int .i64 0, .string ⟨#[]⟩] 28)) := (((Below.refl w.heap.size w).alloc (Nat.le_refl _) _).alloc (by simp) _).alloc (by simp; omega) _
  have BX : Hid (Box3 (((w.alloc (.cells #[.slice a0 d.nb c0, .slice a1 d.nc c1, .slice a2 d.ns c2] 33)).alloc (.cells #[.int .i64 0, .string ⟨#[]⟩] 28)).alloc (.cells #[.int .i64 0, .string ⟨#[]⟩] 28)) w.heap.size 33 (.slice a0 d.nb c0) (.slice a1 d.nc c1) (.slice a2 d.ns c2)) := ((Box3.made w _ _ _ _).alloc _).alloc _
  have ZR : Hid (Sl2 (w.heap.size + 1) 0 ⟨#[]⟩ (((w.alloc (.cells #[.slice a0 d.nb c0, .slice a1 d.nc c1, .slice a2 d.ns c2] 33)).alloc (.cells #[.int .i64 0, .string ⟨#[]⟩] 28)).alloc (.cells #[.int .i64 0, .string ⟨#[]⟩] 28))) := (Sl2.madeAt (by simp) _ _ _).below ((Below.refl _ _).alloc (Nat.le_refl _) _)
  have BS : Hid (Sl2 (w.heap.size + 2) (bst k d 0).1 (bst k d 0).2 (((w.alloc (.cells #[.slice a0 d.nb c0, .slice a1 d.nc c1, .slice a2 d.ns c2] 33)).alloc (.cells #[.int .i64 0, .string ⟨#[]⟩] 28)).alloc (.cells #[.int .i64 0, .string ⟨#[]⟩] 28))) := Sl2.madeAt (by simp) _ _ _
  have AA1 : Hid (Below w.heap.size w (((w.alloc (.cells #[.slice a0 d.nb c0, .slice a1 d.nc c1, .slice a2 d.ns c2] 33)).alloc (.cells #[.int .i64 0, .string ⟨#[]⟩] 28)).alloc (.cells #[.int .i64 0, .string ⟨#[]⟩] 28))) := A1
  clear h A1 hk hd hn
  go_enter Tryz.func24, Tryz.ntmps24
  go_wp2
  generalize (((w.alloc (.cells #[.slice a0 d.nb c0, .slice a1 d.nc c1, .slice a2 d.ns c2] 33)).alloc (.cells #[.int .i64 0, .string ⟨#[]⟩] 28)).alloc (.cells #[.int .i64 0, .string ⟨#[]⟩] 28)) = v0 at *
  go_loopw [6] (fun i wr => ∃ q : Nat, q ≤ 2 ∧ i = .int .i64 (q : Int) ∧ Box3 wr w.heap.size 33 (.slice a0 d.nb c0) (.slice a1 d.nc c1) (.slice a2 d.ns c2) ∧ Sl2 (w.heap.size + 1) 0 ⟨#[]⟩ wr ∧ Sl2 (w.heap.size + 2) (bst k d q).1 (bst k d q).2 wr ∧ Below w.heap.size w wr) (fun i _ => 2 - (intOf i).toNat)
  case atStart => exact ⟨0, by omega, rfl, BX.out, ZR.out, BS.out, AA1.out⟩
  case round =>
    clear BX ZR BS AA1
    obtain ⟨q, hq, rfl, bx, zr, bs, hb⟩ := hrel
    have BX : Hid (Box3 wr w.heap.size 33 (.slice a0 d.nb c0) (.slice a1 d.nc c1) (.slice a2 d.ns c2)) := bx
    have ZR : Hid (Sl2 (w.heap.size + 1) 0 ⟨#[]⟩ wr) := zr
    have BS : Hid (Sl2 (w.heap.size + 2) (bst k d q).1 (bst k d q).2 wr) := bs
    have A1 : Hid (Below w.heap.size w wr) := hb
    clear bx zr bs hb
    by_cases hlt : q < 2
    · have y1 : (q : Int) < 2 := by omega
      have t0 := BX.out.c0
      have t1 := BX.out.c1
      have t2 := BX.out.c2
      go_wp2_with fail
      clear t0 t1 t2
      refine (RD.out q _ hlt (HV.out.below A1.out)).mono ?_
      rintro e v1 ⟨rfl, hb⟩
      replace BX : Hid (Box3 v1 w.heap.size 33 (.slice a0 d.nb c0) (.slice a1 d.nc c1) (.slice a2 d.ns c2)) := BX.out.below hb
      replace ZR : Hid (Sl2 (w.heap.size + 1) 0 ⟨#[]⟩ v1) := ZR.out.below hb
      replace BS : Hid (Sl2 (w.heap.size + 2) (bst k d q).1 (bst k d q).2 v1) := BS.out.below hb
      replace A1 : Hid (Below w.heap.size w v1) := A1.out.trans (hb.mono A1.out.size)
      clear hb
      go_wp2_with fail
      refine (RS.out q _ hlt).mono ?_
      rintro e v2 ⟨rfl, hb⟩
      replace BX : Hid (Box3 v2 w.heap.size 33 (.slice a0 d.nb c0) (.slice a1 d.nc c1) (.slice a2 d.ns c2)) := BX.out.below hb
      replace ZR : Hid (Sl2 (w.heap.size + 1) 0 ⟨#[]⟩ v2) := ZR.out.below hb
      replace BS : Hid (Sl2 (w.heap.size + 2) (bst k d q).1 (bst k d q).2 v2) := BS.out.below hb
      replace A1 : Hid (Below w.heap.size w v2) := A1.out.trans (hb.mono A1.out.size)
      clear hb
      have hst : bst k d (q + 1) = if opS k d q = true ∧ (bst k d q).1 < opE k d q then (opE k d q, opD k d q) else bst k d q := rfl
      have HST : Hid (bst k d (q + 1) = if opS k d q = true ∧ (bst k d q).1 < opE k d q then (opE k d q, opD k d q) else bst k d q) := hst
      clear hst
      generalize opE k d q = E at *
      generalize opD k d q = D at *
      generalize hB1 : (bst k d q).1 = BE at *
      generalize hB2 : (bst k d q).2 = BD at *
      have HB : Hid (bst k d q = (BE, BD)) := by show bst k d q = _; rw [← hB1, ← hB2]
      clear hB1 hB2
      have hb : Below v2.heap.size v2 (v2.alloc (.cells #[.int .i64 E, .string D] 28)) := (Below.refl _ _).alloc (Nat.le_refl _) _
      have S0 : Hid (Sl2 v2.heap.size E D (v2.alloc (.cells #[.int .i64 E, .string D] 28))) := Sl2.made v2 _ _ _
      replace BX : Hid (Box3 (v2.alloc (.cells #[.int .i64 E, .string D] 28)) w.heap.size 33 (.slice a0 d.nb c0) (.slice a1 d.nc c1) (.slice a2 d.ns c2)) := BX.out.below hb
      replace ZR : Hid (Sl2 (w.heap.size + 1) 0 ⟨#[]⟩ (v2.alloc (.cells #[.int .i64 E, .string D] 28))) := ZR.out.below hb
      replace BS : Hid (Sl2 (w.heap.size + 2) BE BD (v2.alloc (.cells #[.int .i64 E, .string D] 28))) := BS.out.below hb
      replace A1 : Hid (Below w.heap.size w (v2.alloc (.cells #[.int .i64 E, .string D] 28))) := A1.out.trans (hb.mono A1.out.size)
      have s0 := S0.out.c0
      have s1 := S0.out.c1
      have b0 := BS.out.c0
      have b1 := BS.out.c1
      have b2 := BS.out.fr 0
      have b3 := BS.out.fr 1
      clear hb
      cases hS : opS k d q with
      | false =>
        have HN : Hid (bst k d (q + 1) = (BE, BD)) := by show bst k d (q + 1) = _; rw [HST.out, hS, if_neg (by simp)]; exact HB.out
        clear HST HB hS
        go_wp2
        go_roundw
        case rel => exact ⟨q + 1, by omega, by go_num, BX.out, ZR.out, by rw [HN.out]; exact BS.out, A1.out⟩
        case measure => simp [intOf]; omega
      | true =>
        by_cases hgt : BE < E
        · have HN : Hid (bst k d (q + 1) = (E, D)) := by show bst k d (q + 1) = _; rw [HST.out, hS, if_pos ⟨rfl, hgt⟩]
          have ho : OnlyB (w.heap.size + 2) (v2.alloc (.cells #[.int .i64 E, .string D] 28)) (((v2.alloc (.cells #[.int .i64 E, .string D] 28)).setCell ⟨w.heap.size + 2, 0, none⟩ (.int .i64 E)).setCell ⟨w.heap.size + 2, 1, none⟩ (.string D)) := ((OnlyB.refl _ _).setCell 0 _).setCell 1 _
          have BX5 : Hid (Box3 (((v2.alloc (.cells #[.int .i64 E, .string D] 28)).setCell ⟨w.heap.size + 2, 0, none⟩ (.int .i64 E)).setCell ⟨w.heap.size + 2, 1, none⟩ (.string D)) w.heap.size 33 (.slice a0 d.nb c0) (.slice a1 d.nc c1) (.slice a2 d.ns c2)) := BX.out.ofBlock (ho.block _ BX.out.lt (by omega))
          have ZR5 : Hid (Sl2 (w.heap.size + 1) 0 ⟨#[]⟩ (((v2.alloc (.cells #[.int .i64 E, .string D] 28)).setCell ⟨w.heap.size + 2, 0, none⟩ (.int .i64 E)).setCell ⟨w.heap.size + 2, 1, none⟩ (.string D))) := ZR.out.only ho (by omega)
          have BS5 : Hid (Sl2 (w.heap.size + 2) E D (((v2.alloc (.cells #[.int .i64 E, .string D] 28)).setCell ⟨w.heap.size + 2, 0, none⟩ (.int .i64 E)).setCell ⟨w.heap.size + 2, 1, none⟩ (.string D))) := (BS.out.putE E).put D
          have A5 : Hid (Below w.heap.size w (((v2.alloc (.cells #[.int .i64 E, .string D] 28)).setCell ⟨w.heap.size + 2, 0, none⟩ (.int .i64 E)).setCell ⟨w.heap.size + 2, 1, none⟩ (.string D))) := A1.out.trans (ho.toBelow (by omega) A1.out.size)
          clear HST HB hS ho BX ZR BS A1
          go_wp2
          go_roundw
          case rel => exact ⟨q + 1, by omega, by go_num, BX5.out, ZR5.out, by rw [HN.out]; exact BS5.out, A5.out⟩
          case measure => simp [intOf]; omega
        · have HN : Hid (bst k d (q + 1) = (BE, BD)) := by show bst k d (q + 1) = _; rw [HST.out, if_neg (fun h => hgt h.2)]; exact HB.out
          clear HST HB hS
          go_wp2
          go_roundw
          case rel => exact ⟨q + 1, by omega, by go_num, BX.out, ZR.out, by rw [HN.out]; exact BS.out, A1.out⟩
          case measure => simp [intOf]; omega
    · obtain rfl : q = 2 := by omega
      have b0 := BS.out.c0
      have b1 := BS.out.c1
      have z0 := ZR.out.c0
      have z1 := ZR.out.c1
      have z2 := ZR.out.fr 0
      have z3 := ZR.out.fr 1
      clear RD RS HV
      go_wp2
      exact retCell1 (b := w.heap.size + 1) (v := .agg #[.int .i64 (bst k d 2).1, .string (bst k d 2).2]) Tryz.results24 rfl (by go_simp) ⟨rfl, (A1.out.setCell (Nat.le_succ _) _).setCell (Nat.le_succ _) _⟩
end Go.Proofs.YtbecnaabmlkjjabGreatDoor
namespace Go.Proofs.YtbecnaabmlkjjabGreatDoor
open Go.ChangeShapes Go.WideShapes Go.ChangeAt Go.RowKit
set_option linter.unusedVariables false
/-- What the looks at a key, at data and at a disk answer. -/
def SfAns (k s : ByteArray) (d : Dk) (code : Int) : Prop := (¬ (k.size ≤ 65536 ∧ s.size ≤ 65536) ∧ code = 2) ∨ (k.size ≤ 65536 ∧ s.size ≤ 65536 ∧ (k.size ≠ 32 ∨ (k.size = 32 ∧ ¬ d.Ok)) ∧ code = 1) ∨ (k.size = 32 ∧ s.size ≤ 65536 ∧ d.Ok ∧ d.nb < 2 ∧ code = 4) ∨ (k.size = 32 ∧ s.size ≤ 65536 ∧ d.Ok ∧ 2 ≤ d.nb ∧ code = 0)
theorem sfAns_ex (k s : ByteArray) (d : Dk) : ∃ code, SfAns k s d code := by
  by_cases h1 : k.size ≤ 65536 ∧ s.size ≤ 65536
  · by_cases h2 : k.size = 32
    · by_cases h3 : d.Ok
      · by_cases h4 : d.nb < 2
        · exact ⟨4, .inr (.inr (.inl ⟨h2, h1.2, h3, h4, rfl⟩))⟩
        · exact ⟨0, .inr (.inr (.inr ⟨h2, h1.2, h3, by omega, rfl⟩))⟩
      · exact ⟨1, .inr (.inl ⟨h1.1, h1.2, .inr ⟨h2, h3⟩, rfl⟩)⟩
    · exact ⟨1, .inr (.inl ⟨h1.1, h1.2, .inl h2, rfl⟩)⟩
  · exact ⟨2, .inl ⟨h1, rfl⟩⟩
set_option maxRecDepth 100000 in
set_option maxHeartbeats 2000000 in
theorem slotsFault_any (k s : ByteArray) (d : Dk) (a0 a1 a2 : Option Addr) (c0 c1 c2 : Nat) (code : Int) (hr : SfAns k s d code) (hs : d.nb ≤ 1048576 ∧ d.nc ≤ 1048576 ∧ d.ns ≤ 1048576) (p0 p1 : Addr) (w : World) (h : DiskV w d a0 a1 a2) (hE0 : ErrAt w 3 p0) (hE1 : ErrAt w 4 p1) :
    Calls Tryz.prog 27 #[.string k, .string s, .agg #[.slice a0 d.nb c0, .slice a1 d.nc c1, .slice a2 d.ns c2]] w fun e w' => e = .returned (.int .i64 code) ∧ Below w.heap.size w w' := by
  have A0 : Below w.heap.size w (w.alloc (.cells #[.slice a0 d.nb c0, .slice a1 d.nc c1, .slice a2 d.ns c2] 33)) := (Below.refl _ _).alloc (Nat.le_refl _) _
  have BX : Hid (Box3 (w.alloc (.cells #[.slice a0 d.nb c0, .slice a1 d.nc c1, .slice a2 d.ns c2] 33)) w.heap.size 33 (.slice a0 d.nb c0) (.slice a1 d.nc c1) (.slice a2 d.ns c2)) := Box3.made _ _ _ _ _
  have OK : Hid (Calls Tryz.prog 52 #[.agg #[.slice a0 d.nb c0, .slice a1 d.nc c1, .slice a2 d.ns c2]] (w.alloc (.cells #[.slice a0 d.nb c0, .slice a1 d.nc c1, .slice a2 d.ns c2] 33)) fun e w' => e = .returned (.bool d.ok) ∧ Below (w.alloc (.cells #[.slice a0 d.nb c0, .slice a1 d.nc c1, .slice a2 d.ns c2] 33)).heap.size (w.alloc (.cells #[.slice a0 d.nb c0, .slice a1 d.nc c1, .slice a2 d.ns c2] 33)) w') := implOK_any d a0 a1 a2 c0 c1 c2 hs p0 p1 _ (h.below A0) (hE0.below A0) (hE1.below A0)
  have A1 : Hid (Below w.heap.size w (w.alloc (.cells #[.slice a0 d.nb c0, .slice a1 d.nc c1, .slice a2 d.ns c2] 33))) := A0
  clear h hE0 hE1 hs A0
  rcases hr with ⟨h1, rfl⟩ | ⟨h1, h2, h3, rfl⟩ | ⟨h1, h2, h3, h4, rfl⟩ | ⟨h1, h2, h3, h4, rfl⟩
  · by_cases hk : k.size ≤ 65536
    · have x1 : ¬ (65536 : Int) < (k.size : Int) := by omega
      have x2 : (65536 : Int) < (s.size : Int) := by omega
      clear hk h1
      go_enter Tryz.func27, Tryz.ntmps27
      go_wp2
      go_ret
      exact ⟨rfl, A1.out⟩
    · have x1 : (65536 : Int) < (k.size : Int) := by omega
      clear hk h1
      go_enter Tryz.func27, Tryz.ntmps27
      go_wp2
      go_ret
      exact ⟨rfl, A1.out⟩
  · have x1 : ¬ (65536 : Int) < (k.size : Int) := by omega
    have x2 : ¬ (65536 : Int) < (s.size : Int) := by omega
    rcases h3 with h3 | ⟨h3, h4⟩
    · have x3 : ((k.size : Int) != 32) = true := by rw [bne_iff_ne]; omega
      clear h1 h2 h3
      go_enter Tryz.func27, Tryz.ntmps27
      go_wp2
      go_ret
      exact ⟨rfl, A1.out⟩
    · have x3 : ((k.size : Int) != 32) = false := by rw [h3]; rfl
      rw [Dk.ok_false h4] at OK
      have t0 := BX.out.c0
      have t1 := BX.out.c1
      have t2 := BX.out.c2
      clear h1 h2 h3 h4
      go_enter Tryz.func27, Tryz.ntmps27
      go_wp2_with fail
      refine OK.out.mono ?_
      rintro e v1 ⟨rfl, hb⟩
      replace A1 : Hid (Below w.heap.size w v1) := A1.out.trans (hb.mono A1.out.size)
      clear hb t0 t1 t2 OK BX
      go_wp2
      go_ret
      exact ⟨rfl, A1.out⟩
  all_goals
    have x1 : ¬ (65536 : Int) < (k.size : Int) := by omega
    have x2 : ¬ (65536 : Int) < (s.size : Int) := by omega
    have x3 : ((k.size : Int) != 32) = false := by rw [h1]; rfl
    rw [Dk.ok_true h3] at OK
    have t0 := BX.out.c0
    have t1 := BX.out.c1
    have t2 := BX.out.c2
  · have x4 : (d.nb : Int) < 2 := by omega
    clear h1 h2 h3 h4
    go_enter Tryz.func27, Tryz.ntmps27
    go_wp2_with fail
    clear t0 t1 t2
    generalize (w.alloc (.cells #[.slice a0 d.nb c0, .slice a1 d.nc c1, .slice a2 d.ns c2] 33)) = v0 at *
    refine OK.out.mono ?_
    rintro e v1 ⟨rfl, hb⟩
    replace A1 : Hid (Below w.heap.size w v1) := A1.out.trans (hb.mono A1.out.size)
    have t0 := (BX.out.below hb).c0
    clear hb OK BX
    go_wp2
    go_ret
    exact ⟨rfl, A1.out⟩
  · have x4 : ¬ (d.nb : Int) < 2 := by omega
    clear h1 h2 h3 h4
    go_enter Tryz.func27, Tryz.ntmps27
    go_wp2_with fail
    clear t0 t1 t2
    generalize (w.alloc (.cells #[.slice a0 d.nb c0, .slice a1 d.nc c1, .slice a2 d.ns c2] 33)) = v0 at *
    refine OK.out.mono ?_
    rintro e v1 ⟨rfl, hb⟩
    replace A1 : Hid (Below w.heap.size w v1) := A1.out.trans (hb.mono A1.out.size)
    have t0 := (BX.out.below hb).c0
    clear hb OK BX
    go_wp2
    go_ret
    exact ⟨rfl, A1.out⟩
set_option maxRecDepth 100000 in
set_option maxHeartbeats 2000000 in
theorem l06Code_any (k s : ByteArray) (d : Dk) (a0 a1 a2 : Option Addr) (c0 c1 c2 : Nat) (code : Int) (hr : SfAns k s d code) (hk0 : k.size ≤ 65536 ∧ s.size ≤ 65536) (hs : d.nb ≤ 1048576 ∧ d.nc ≤ 1048576 ∧ d.ns ≤ 1048576) (w : World) (h : DiskV w d a0 a1 a2) :
    Calls Tryz.prog 23 #[.string k, .agg #[.slice a0 d.nb c0, .slice a1 d.nc c1, .slice a2 d.ns c2]] w fun e w' => e = .returned (.int .i64 code) ∧ Below w.heap.size w w' := by
  have A0 : Below w.heap.size w (w.alloc (.cells #[.slice a0 d.nb c0, .slice a1 d.nc c1, .slice a2 d.ns c2] 33)) := (Below.refl _ _).alloc (Nat.le_refl _) _
  have BX : Hid (Box3 (w.alloc (.cells #[.slice a0 d.nb c0, .slice a1 d.nc c1, .slice a2 d.ns c2] 33)) w.heap.size 33 (.slice a0 d.nb c0) (.slice a1 d.nc c1) (.slice a2 d.ns c2)) := Box3.made _ _ _ _ _
  have OK : Hid (Calls Tryz.prog 48 #[.agg #[.slice a0 d.nb c0, .slice a1 d.nc c1, .slice a2 d.ns c2]] (w.alloc (.cells #[.slice a0 d.nb c0, .slice a1 d.nc c1, .slice a2 d.ns c2] 33)) fun e w' => e = .returned (.bool d.ok) ∧ Below (w.alloc (.cells #[.slice a0 d.nb c0, .slice a1 d.nc c1, .slice a2 d.ns c2] 33)).heap.size (w.alloc (.cells #[.slice a0 d.nb c0, .slice a1 d.nc c1, .slice a2 d.ns c2] 33)) w') := specOK_any d a0 a1 a2 c0 c1 c2 hs _ (h.below A0)
  have A1 : Hid (Below w.heap.size w (w.alloc (.cells #[.slice a0 d.nb c0, .slice a1 d.nc c1, .slice a2 d.ns c2] 33))) := A0
  clear h hs A0
  rcases hr with ⟨h1, rfl⟩ | ⟨h1, h2, h3, rfl⟩ | ⟨h1, h2, h3, h4, rfl⟩ | ⟨h1, h2, h3, h4, rfl⟩
  · exact absurd hk0 h1
  · rcases h3 with h3 | ⟨h3, h4⟩
    · have x3 : ((k.size : Int) != 32) = true := by rw [bne_iff_ne]; omega
      clear h1 h2 h3 hk0
      go_enter Tryz.func23, Tryz.ntmps23
      go_wp2
      go_ret
      exact ⟨rfl, A1.out⟩
    · have x3 : ((k.size : Int) != 32) = false := by rw [h3]; rfl
      rw [Dk.ok_false h4] at OK
      have t0 := BX.out.c0
      have t1 := BX.out.c1
      have t2 := BX.out.c2
      clear h1 h2 h3 h4 hk0
      go_enter Tryz.func23, Tryz.ntmps23
      go_wp2_with fail
      refine OK.out.mono ?_
      rintro e v1 ⟨rfl, hb⟩
      replace A1 : Hid (Below w.heap.size w v1) := A1.out.trans (hb.mono A1.out.size)
      clear hb t0 t1 t2 OK BX
      go_wp2
      go_ret
      exact ⟨rfl, A1.out⟩
  all_goals
    have x3 : ((k.size : Int) != 32) = false := by rw [h1]; rfl
    rw [Dk.ok_true h3] at OK
    have t0 := BX.out.c0
    have t1 := BX.out.c1
    have t2 := BX.out.c2
  · have x4 : (d.nb : Int) < 2 := by omega
    clear h1 h2 h3 h4 hk0
    go_enter Tryz.func23, Tryz.ntmps23
    go_wp2_with fail
    clear t0 t1 t2
    generalize (w.alloc (.cells #[.slice a0 d.nb c0, .slice a1 d.nc c1, .slice a2 d.ns c2] 33)) = v0 at *
    refine OK.out.mono ?_
    rintro e v1 ⟨rfl, hb⟩
    replace A1 : Hid (Below w.heap.size w v1) := A1.out.trans (hb.mono A1.out.size)
    have t0 := (BX.out.below hb).c0
    clear hb OK BX
    go_wp2
    go_ret
    exact ⟨rfl, A1.out⟩
  · have x4 : ¬ (d.nb : Int) < 2 := by omega
    clear h1 h2 h3 h4 hk0
    go_enter Tryz.func23, Tryz.ntmps23
    go_wp2_with fail
    clear t0 t1 t2
    generalize (w.alloc (.cells #[.slice a0 d.nb c0, .slice a1 d.nc c1, .slice a2 d.ns c2] 33)) = v0 at *
    refine OK.out.mono ?_
    rintro e v1 ⟨rfl, hb⟩
    replace A1 : Hid (Below w.heap.size w v1) := A1.out.trans (hb.mono A1.out.size)
    have t0 := (BX.out.below hb).c0
    clear hb OK BX
    go_wp2
    go_ret
    exact ⟨rfl, A1.out⟩
end Go.Proofs.YtbecnaabmlkjjabGreatDoor
namespace Go.Proofs.YtbecnaabmlkjjabGreatDoor
open Go.ChangeShapes Go.WideShapes Go.ChangeAt Go.RowKit
set_option linter.unusedVariables false
/-- A scope whose one label stands at its end. -/
theorem wp_scope_end {P : Program} {a : Act} {w : World} {Q : Exit → Act → World → Prop} {c : Code} (l : Nat) (hf : findLabel c l = some Code.skip) (h : c.wp P (Exit.jump l (fun a' w' => Q .normal a' w') Q) a w) : (Code.scope c).wp P Q a w :=
  wp_scope_jumps l (fun a' w' => Q .normal a' w') (fun _ _ => 0) hf h (fun a w hj => wp_skip hj)
/-- A pointer to the better slot, or nowhere. -/
def Bt (w : World) (pv : Value) (x : Int × ByteArray) : Prop := (x.1 = 0 ∧ pv = .pointer none) ∨ (x.1 ≠ 0 ∧ ∃ pb, pv = .pointer (some ⟨pb, 0, none⟩) ∧ Sl2 pb x.1 x.2 w)
theorem Bt.below {w w' : World} {pv : Value} {x : Int × ByteArray} (h : Bt w pv x) (hb : Below w.heap.size w w') : Bt w' pv x := by
  rcases h with h | ⟨h, pb, e, s⟩
  · exact .inl h
  · exact .inr ⟨h, pb, e, s.below hb⟩
set_option maxRecDepth 100000 in
set_option maxHeartbeats 4000000 in
theorem better_any (k : ByteArray) (d : Dk) (a0 a1 a2 : Option Addr) (c0 c1 c2 : Nat) (hk : k.size = 32) (hd : d.Ok) (hn : 2 ≤ d.nb) (w : World) (h : DiskV w d a0 a1 a2) (ht : Tabs w) :
    Calls Tryz.prog 28 #[.string k, .agg #[.slice a0 d.nb c0, .slice a1 d.nc c1, .slice a2 d.ns c2]] w fun e w' => (∃ pv, e = .returned pv ∧ Bt w' pv (bst k d 2)) ∧ Below w.heap.size w w' := by
  have DO : Hid (∀ w : World, DiskV w d a0 a1 a2 → Calls Tryz.prog 42 #[.agg #[.slice a0 d.nb c0, .slice a1 d.nc c1, .slice a2 d.ns c2]] w fun e w' => e = .returned (.pointer (some ⟨w.heap.size + 2, 0, none⟩)) ∧ Box4 w' (w.heap.size + 2) 77 (.slice a0 d.nb c0) (.slice a1 d.nc c1) (.slice a2 d.ns c2) (.map (some (w.heap.size + 1))) ∧ MapI w' (w.heap.size + 1) (lastM d.A d.D d.nc) ∧ Below w.heap.size w w') := fun w h => driveOf_any d a0 a1 a2 c0 c1 c2 hd.nc w h.2.1
  have SN : Hid (∀ (q dq dm : Nat) (w : World), q < 2 → Box4 w dq 77 (.slice a0 d.nb c0) (.slice a1 d.nc c1) (.slice a2 d.ns c2) (.map (some dm)) → MapI w dm (lastM d.A d.D d.nc) → DiskV w d a0 a1 a2 → Calls Tryz.prog 54 #[.pointer (some ⟨dq, 0, none⟩), .int .i64 (q : Int)] w fun e w' => e = .returned (.string (d.rd q)) ∧ Below w.heap.size w w') := fun q dq dm w hq h1 h2 h3 => stands_any d a0 c0 dq dm q _ _ (by omega) hd.nb2 w h1 h2 h3.1
  have UN : Hid (∀ (q b c : Nat) (w : World), q < 2 → (d.rd q).size ≤ c → Code8 w (some ⟨b, 0, none⟩) (d.rd q).size (strB (d.rd q)) → Tabs w → Calls Tryz.prog 53 #[.string k, .int .i64 (q : Int), .slice (some ⟨b, 0, none⟩) (d.rd q).size c] w fun e w' => e = .returned (.tuple #[.agg #[.int .i64 (opE k d q), .string (opD k d q)], .int .i64 (opC k d q)]) ∧ Below w.heap.size w w') := fun q b c w hq hc h1 h2 => unsealed_any k q _ _ c _ (strB_lt _) hk (by omega) (by have := Dk.rd_le hd q (by omega); omega) hc w h1 h2
  have OC : Hid (∀ q, (opS k d q = true → opC k d q = 0) ∧ (opS k d q = false → opC k d q = 10)) := fun q => ⟨fun h => (rd_yes h).2.2, fun h => (rd_no h).2.2⟩
  have HV : Hid (DiskV w d a0 a1 a2) := h
  have HT : Hid (Tabs w) := ht
  have A1 : Hid (Below w.heap.size w (w.alloc (.cells #[.slice a0 d.nb c0, .slice a1 d.nc c1, .slice a2 d.ns c2] 33))) := (Below.refl _ _).alloc (Nat.le_refl _) _
  have BX : Hid (Box3 (w.alloc (.cells #[.slice a0 d.nb c0, .slice a1 d.nc c1, .slice a2 d.ns c2] 33)) w.heap.size 33 (.slice a0 d.nb c0) (.slice a1 d.nc c1) (.slice a2 d.ns c2)) := Box3.made _ _ _ _ _
  have t0 := BX.out.c0
  have t1 := BX.out.c1
  have t2 := BX.out.c2
  clear h ht hk hd hn
  go_enter Tryz.func28, Tryz.ntmps28
  go_wp2_with fail
  clear t0 t1 t2 BX
  generalize (w.alloc (.cells #[.slice a0 d.nb c0, .slice a1 d.nc c1, .slice a2 d.ns c2] 33)) = v0 at *
  refine (DO.out _ (HV.out.below A1.out)).mono ?_
  rintro e v1 ⟨rfl, hq4, hmi, hb⟩
  replace A1 : Hid (Below w.heap.size w v1) := A1.out.trans (hb.mono A1.out.size)
  obtain ⟨dq, hdq⟩ : ∃ x, x = v0.heap.size + 2 := ⟨_, rfl⟩
  obtain ⟨dm, hdm⟩ : ∃ x, x = v0.heap.size + 1 := ⟨_, rfl⟩
  rw [← hdq, ← hdm] at hq4
  rw [← hdm] at hmi
  rw [← hdq]
  have Q4 : Hid (Box4 v1 dq 77 (.slice a0 d.nb c0) (.slice a1 d.nc c1) (.slice a2 d.ns c2) (.map (some dm))) := hq4
  have MI : Hid (MapI v1 dm (lastM d.A d.D d.nc)) := hmi
  clear hb hq4 hmi hdq hdm DO
  go_wp2
  go_loopw [6, 12] (fun pv i wr => ∃ q : Nat, q ≤ 2 ∧ i = .int .i64 (q : Int) ∧ Bt wr pv (bst k d q) ∧ Box4 wr dq 77 (.slice a0 d.nb c0) (.slice a1 d.nc c1) (.slice a2 d.ns c2) (.map (some dm)) ∧ MapI wr dm (lastM d.A d.D d.nc) ∧ Below w.heap.size w wr) (fun _ i _ => 2 - (intOf i).toNat)
  case atStart => exact ⟨0, by omega, rfl, .inl ⟨rfl, rfl⟩, Q4.out, MI.out, A1.out⟩
  case round =>
    clear Q4 MI A1
    obtain ⟨q, hq, rfl, bt, q4, mi, hb⟩ := hrel
    have BT : Hid (Bt wr u6 (bst k d q)) := bt
    have Q4 : Hid (Box4 wr dq 77 (.slice a0 d.nb c0) (.slice a1 d.nc c1) (.slice a2 d.ns c2) (.map (some dm))) := q4
    have MI : Hid (MapI wr dm (lastM d.A d.D d.nc)) := mi
    have A1 : Hid (Below w.heap.size w wr) := hb
    clear bt q4 mi hb
    by_cases hlt : q < 2
    · have y1 : (q : Int) < 2 := by omega
      go_wp2_with fail
      refine wp_scope_end 0 (by rfl) ?_
      go_wp2_with fail
      refine (SN.out q dq dm _ hlt Q4.out MI.out (HV.out.below A1.out)).mono ?_
      rintro e v2 ⟨rfl, hb⟩
      replace BT : Hid (Bt v2 u6 (bst k d q)) := BT.out.below hb
      replace Q4 : Hid (Box4 v2 dq 77 (.slice a0 d.nb c0) (.slice a1 d.nc c1) (.slice a2 d.ns c2) (.map (some dm))) := Q4.out.below hb
      replace MI : Hid (MapI v2 dm (lastM d.A d.D d.nc)) := MI.out.below hb
      replace A1 : Hid (Below w.heap.size w v2) := A1.out.trans (hb.mono A1.out.size)
      clear hb
      have UQ : Hid (∀ (b c : Nat) (w : World), (d.rd q).size ≤ c → Code8 w (some ⟨b, 0, none⟩) (d.rd q).size (strB (d.rd q)) → Tabs w → Calls Tryz.prog 53 #[.string k, .int .i64 (q : Int), .slice (some ⟨b, 0, none⟩) (d.rd q).size c] w fun e w' => e = .returned (.tuple #[.agg #[.int .i64 (opE k d q), .string (opD k d q)], .int .i64 (opC k d q)]) ∧ Below w.heap.size w w') := fun b c w => UN.out q b c w hlt
      have hst : bst k d (q + 1) = if opS k d q = true ∧ (bst k d q).1 < opE k d q then (opE k d q, opD k d q) else bst k d q := rfl
      have HST : Hid (bst k d (q + 1) = if opS k d q = true ∧ (bst k d q).1 < opE k d q then (opE k d q, opD k d q) else bst k d q) := hst
      have HP : Hid (opS k d q = true → 1 ≤ opE k d q) := fun h => opE_pos h
      have HN : Hid (0 ≤ (bst k d q).1) := bst_nn k d q
      have HC : Hid ((opS k d q = true → opC k d q = 0) ∧ (opS k d q = false → opC k d q = 10)) := OC.out q
      clear hst UN OC SN
      generalize d.rd q = t at *
      generalize opE k d q = E at *
      generalize opD k d q = D at *
      generalize opC k d q = C at *
      generalize opS k d q = S at *
      generalize bst k d q = X at *
      obtain ⟨v3, gc, hcv, hk3, hb, hgc⟩ := bytesOfM t v2
      replace BT : Hid (Bt v3 u6 X) := BT.out.below hb
      replace Q4 : Hid (Box4 v3 dq 77 (.slice a0 d.nb c0) (.slice a1 d.nc c1) (.slice a2 d.ns c2) (.map (some dm))) := Q4.out.below hb
      replace MI : Hid (MapI v3 dm (lastM d.A d.D d.nc)) := MI.out.below hb
      replace A1 : Hid (Below w.heap.size w v3) := A1.out.trans (hb.mono A1.out.size)
      have K3 : Hid (Code8 v3 (some ⟨v2.heap.size, 0, none⟩) t.size (strB t)) := hk3
      have GC : Hid (t.size ≤ gc) := hgc
      clear hb hk3 hgc
      go_wp2_with fail
      refine (UQ.out _ _ _ GC.out K3.out (HT.out.below A1.out)).mono ?_
      rintro e v4 ⟨rfl, hb⟩
      replace BT : Hid (Bt v4 u6 X) := BT.out.below hb
      replace Q4 : Hid (Box4 v4 dq 77 (.slice a0 d.nb c0) (.slice a1 d.nc c1) (.slice a2 d.ns c2) (.map (some dm))) := Q4.out.below hb
      replace MI : Hid (MapI v4 dm (lastM d.A d.D d.nc)) := MI.out.below hb
      replace A1 : Hid (Below w.heap.size w v4) := A1.out.trans (hb.mono A1.out.size)
      clear hb K3 GC UQ hcv
      have hb : Below v4.heap.size v4 (v4.alloc (.cells #[.int .i64 E, .string D] 28)) := (Below.refl _ _).alloc (Nat.le_refl _) _
      have S0 : Hid (Sl2 v4.heap.size E D (v4.alloc (.cells #[.int .i64 E, .string D] 28))) := Sl2.made v4 _ _ _
      replace BT : Hid (Bt (v4.alloc (.cells #[.int .i64 E, .string D] 28)) u6 X) := BT.out.below hb
      replace Q4 : Hid (Box4 (v4.alloc (.cells #[.int .i64 E, .string D] 28)) dq 77 (.slice a0 d.nb c0) (.slice a1 d.nc c1) (.slice a2 d.ns c2) (.map (some dm))) := Q4.out.below hb
      replace MI : Hid (MapI (v4.alloc (.cells #[.int .i64 E, .string D] 28)) dm (lastM d.A d.D d.nc)) := MI.out.below hb
      replace A1 : Hid (Below w.heap.size w (v4.alloc (.cells #[.int .i64 E, .string D] 28))) := A1.out.trans (hb.mono A1.out.size)
      clear hb
      cases S with
      | false =>
        obtain rfl : C = 10 := HC.out.2 rfl
        have HX : Hid (bst k d (q + 1) = X) := by show bst k d (q + 1) = X; rw [HST.out, if_neg (by simp)]
        clear HC HST HP HN
        go_wp2_with fail
        go_step3
        rename_i Qj Kj hKj
        refine And.intro rfl ?_
        go_wp2
        exact ⟨⟨q + 1, by omega, by go_num, by rw [HX.out]; exact BT.out, Q4.out, MI.out, A1.out⟩, by simp [intOf]; omega⟩
      | true =>
        obtain rfl : C = 0 := HC.out.1 rfl
        have hE : 1 ≤ E := HP.out rfl
        clear HC HP
        go_wp2_with fail
        have s0 := S0.out.c0
        rcases BT.out with ⟨h0, rfl⟩ | ⟨hne, pb, rfl, hsl⟩
        · have HX : Hid (bst k d (q + 1) = (E, D)) := by show bst k d (q + 1) = _; rw [HST.out, if_pos ⟨trivial, by omega⟩]
          clear HST HN
          go_region
          go_wp2
          refine wp_label ?_
          change Exit.inBlock 1 _ Exit.normal _ _
          have hb : Below (v4.alloc (.cells #[.int .i64 E, .string D] 28)).heap.size (v4.alloc (.cells #[.int .i64 E, .string D] 28)) (v4.alloc (.cells #[.int .i64 E, .string D] 28)).drew := (Below.refl _ _).drew
          have R : Hid (Bt (v4.alloc (.cells #[.int .i64 E, .string D] 28)).drew (.pointer (some ⟨v4.heap.size, 0, none⟩)) (E, D)) := .inr ⟨by show E ≠ 0; omega, v4.heap.size, rfl, S0.out.below hb⟩
          have Q5 := Q4.out.below hb
          have M5 := MI.out.below hb
          have A5 : Hid (Below w.heap.size w (v4.alloc (.cells #[.int .i64 E, .string D] 28)).drew) := A1.out.drew
          clear hb
          go_wp2
          exact ⟨⟨q + 1, by omega, by go_num, by rw [HX.out]; exact R.out, Q5, M5, A5.out⟩, by simp [intOf]; omega⟩
        · have b0 := hsl.c0
          by_cases hgt : X.1 < E
          · have HX : Hid (bst k d (q + 1) = (E, D)) := by show bst k d (q + 1) = _; rw [HST.out, if_pos ⟨trivial, hgt⟩]
            clear HST HN
            go_region
            go_wp2
            refine wp_label ?_
            change Exit.inBlock 1 _ Exit.normal _ _
            have hb : Below (v4.alloc (.cells #[.int .i64 E, .string D] 28)).heap.size (v4.alloc (.cells #[.int .i64 E, .string D] 28)) (v4.alloc (.cells #[.int .i64 E, .string D] 28)).drew := (Below.refl _ _).drew
            have R : Hid (Bt (v4.alloc (.cells #[.int .i64 E, .string D] 28)).drew (.pointer (some ⟨v4.heap.size, 0, none⟩)) (E, D)) := .inr ⟨by show E ≠ 0; omega, v4.heap.size, rfl, S0.out.below hb⟩
            have Q5 := Q4.out.below hb
            have M5 := MI.out.below hb
            have A5 : Hid (Below w.heap.size w (v4.alloc (.cells #[.int .i64 E, .string D] 28)).drew) := A1.out.drew
            clear hb
            go_wp2
            exact ⟨⟨q + 1, by omega, by go_num, by rw [HX.out]; exact R.out, Q5, M5, A5.out⟩, by simp [intOf]; omega⟩
          · have HX : Hid (bst k d (q + 1) = X) := by show bst k d (q + 1) = _; rw [HST.out, if_neg (fun h => hgt h.2)]
            clear HST HN
            go_region
            go_wp2
            refine wp_label ?_
            change Exit.inBlock 1 _ Exit.normal _ _
            have hb : Below (v4.alloc (.cells #[.int .i64 E, .string D] 28)).heap.size (v4.alloc (.cells #[.int .i64 E, .string D] 28)) (v4.alloc (.cells #[.int .i64 E, .string D] 28)).drew := (Below.refl _ _).drew
            have R : Hid (Bt (v4.alloc (.cells #[.int .i64 E, .string D] 28)).drew (.pointer (some ⟨pb, 0, none⟩)) X) := BT.out.below hb
            have Q5 := Q4.out.below hb
            have M5 := MI.out.below hb
            have A5 : Hid (Below w.heap.size w (v4.alloc (.cells #[.int .i64 E, .string D] 28)).drew) := A1.out.drew
            clear hb
            go_wp2
            exact ⟨⟨q + 1, by omega, by go_num, by rw [HX.out]; exact R.out, Q5, M5, A5.out⟩, by simp [intOf]; omega⟩
    · obtain rfl : q = 2 := by omega
      have y1 : ¬ ((2 : Nat) : Int) < 2 := by omega
      go_wp2
      go_ret
      exact ⟨⟨_, rfl, BT.out⟩, A1.out⟩
end Go.Proofs.YtbecnaabmlkjjabGreatDoor
