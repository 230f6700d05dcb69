/-
  Texts of the proof, joined: Plan, Better, SlotP, PlanI.
-/
import Derived.Test.YtboekhegbachpaaGreatDoorS41
import Derived.ScopeJumps
import Derived.Test.YtboekhegbachpaaGreatDoorS40
namespace Go.Proofs.YtboekhegbachpaaGreatDoor
open Go.ChangeShapes Go.WideShapes Go.ChangeAt Go.RowKit
set_option linter.unusedVariables false
def planL (x : Int) (t : ByteArray) : Array Value := #[.int .i64 2, .int .i64 0, .string ⟨#[]⟩, .slice none 0 0, .int .i64 0, .int .i64 1, .int .i64 x, .string t, .slice none 0 0, .int .i64 0, .int .i64 2, .int .i64 0, .string ⟨#[]⟩, .slice none 0 0, .int .i64 0]
def PlanR (w : World) (b : Nat) (x : Int) (t : ByteArray) : Prop := w.rowIs b 49 15 (fun i => (planL x t).getD i undef)
theorem PlanR.made (w : World) (x : Int) (t : ByteArray) : PlanR (w.alloc (.cells (planL x t) 49)) w.heap.size x t := World.rowIs_alloc w (planL x t) 49 _ (fun i hi => by
 rw [Array.getD_eq_getD_getElem?, Array.getElem?_eq_getElem hi, Option.getD_some])
theorem PlanR.lt {w : World} {b : Nat} {x : Int} {t : ByteArray} (h : PlanR w b x t) : b < w.heap.size := World.rowIs.lt h
theorem PlanR.below {w w' : World} {b : Nat} {x : Int} {t : ByteArray} (h : PlanR w b x t) (hb : Below w.heap.size w w') : PlanR w' b x t := World.rowIs.of_block h (hb.block b h.lt)
theorem PlanR.cell {w : World} {b : Nat} {x : Int} {t : ByteArray} (h : PlanR w b x t) (i : Nat) (hi : i < 15) : w.cell? ⟨b, i, none⟩ = some ((planL x t).getD i undef) := World.rowIs.cell h hi
theorem tmod2 (e : Nat) : ((e : Nat) : Int).tmod 2 = ((e % 2 : Nat) : Int) := (Int.ofNat_tmod e 2).symm
def planT (k : ByteArray) (e : Nat) (s : ByteArray) : ByteArray := kstr (slotF k (e % 2) e s) 0 (20 + s.size)
set_option maxRecDepth 100000 in
set_option maxHeartbeats 2000000 in
theorem slotActs_any (k s : ByteArray) (e0 : Nat) (hk : k.size = 32) (he : e0 < 4294967296) (hs : s.size ≤ 170) (w : World) (ht : Tabs w) :
  Calls Tryz.prog 37 #[.string k, .agg #[.int .i64 (e0 : Int), .string s]] w fun e w' => (∃ b, e = .returned (.slice (some ⟨b, 0, none⟩) 3 3) ∧ w.heap.size ≤ b ∧ PlanR w' b ((e0 % 2 : Nat) : Int) (planT k e0 s)) ∧ Below w.heap.size w w' := by
 have SE : Hid (∀ w : World, Tabs w → Calls Tryz.prog 56 #[.string k, .int .i64 ((e0 % 2 : Nat) : Int), .agg #[.int .i64 (e0 : Int), .string s]] w fun e w' => RetO w.heap.size w' e (20 + s.size) (slotF k (e0 % 2) e0 s) ∧ Below w.heap.size w w') := fun w h => sealedSlot_any k s (e0 % 2) e0 hk (by omega) he (by omega) w h
 have HP : Hid (planT k e0 s = kstr (slotF k (e0 % 2) e0 s) 0 (20 + s.size)) := rfl
 generalize planT k e0 s = PT at *
 generalize slotF k (e0 % 2) e0 s = F at *
 have A1 : Hid (Below w.heap.size w (w.alloc (.cells #[.int .i64 (e0 : Int), .string s] 64))) := (Below.refl _ _).alloc (Nat.le_refl _) _
 have C0 : Hid (Sl2 w.heap.size (e0 : Int) s (w.alloc (.cells #[.int .i64 (e0 : Int), .string s] 64))) := Sl2.made w _ _ _
 have HT : Hid (Tabs w) := ht
 have em := tmod2 e0
 have em2 : ((e0 : Nat) : Int) % 2 = ((e0 % 2 : Nat) : Int) := by omega
 generalize e0 % 2 = P at *
 have s0 := C0.out.c0
 have s1 := C0.out.c1
 clear hk he hs ht
 go_enter Tryz.func37, Tryz.ntmps37
 go_wp2_with fail
 clear s0 s1 C0
 generalize (w.alloc (.cells #[.int .i64 (e0 : Int), .string s] 64)) = v0 at *
 refine (SE.out _ (HT.out.below A1.out)).mono ?_
 rintro e v1 ⟨⟨g, c, rfl, how⟩, hb⟩
 obtain ⟨g2, c2, -, hv, ho⟩ := own8_of_own how (by intro h; cases h)
 cases hv
 have hcv := kstr_of_code (c := c) ho.code
 rw [← HP.out] at hcv
 replace A1 : Hid (Below w.heap.size w v1) := A1.out.trans (hb.mono A1.out.size)
 have B1 : Hid (w.heap.size ≤ v1.heap.size) := A1.out.size
 clear hb how ho SE HP HT
 go_wp2
 go_ret
 exact ⟨⟨v1.heap.size, rfl, B1.out, PlanR.made v1 (P : Int) PT⟩, A1.out.alloc A1.out.size _⟩
end Go.Proofs.YtboekhegbachpaaGreatDoor
namespace Go.Proofs.YtboekhegbachpaaGreatDoor
open Go.ChangeShapes Go.WideShapes Go.ChangeAt Go.RowKit
set_option linter.unusedVariables false
theorem wp_scope_end {P : Program} {a : Act} {w : World} {Q : Exit → Act → World → Prop} {c : Code} (l : Nat) (hf : findLabel c l = some Code.skip) (h : c.wp P (Exit.jump l (fun a' w' => Q .normal a' w') Q) a w) : (Code.scope c).wp P Q a w :=
 wp_scope_jumps l (fun a' w' => Q .normal a' w') (fun _ _ => 0) hf h (fun a w hj => wp_skip hj)
def Bt (w : World) (pv : Value) (x : Int × ByteArray) : Prop := (x.1 = 0 ∧ pv = .pointer none) ∨ (x.1 ≠ 0 ∧ ∃ pb, pv = .pointer (some ⟨pb, 0, none⟩) ∧ Sl2 pb x.1 x.2 w)
theorem Bt.below {w w' : World} {pv : Value} {x : Int × ByteArray} (h : Bt w pv x) (hb : Below w.heap.size w w') : Bt w' pv x := by
 rcases h with h | ⟨h, pb, e, s⟩
 ·exact .inl h
 ·exact .inr ⟨h, pb, e, s.below hb⟩
set_option maxRecDepth 100000 in
set_option maxHeartbeats 4000000 in
theorem better_any (k : ByteArray) (d : Dk) (a0 a1 a2 : Option Addr) (c0 c1 c2 : Nat) (hk : k.size = 32) (hd : d.Ok) (hn : 2 ≤ d.nb) (w : World) (h : DiskV w d a0 a1 a2) (ht : Tabs w) :
  Calls Tryz.prog 35 #[.string k, .agg #[.slice a0 d.nb c0, .slice a1 d.nc c1, .slice a2 d.ns c2]] w fun e w' => (∃ pv, e = .returned pv ∧ Bt w' pv (bst k d 2)) ∧ Below w.heap.size w w' := by
 have DO : Hid (∀ w : World, DiskV w d a0 a1 a2 → Calls Tryz.prog 19 #[.agg #[.slice a0 d.nb c0, .slice a1 d.nc c1, .slice a2 d.ns c2]] w fun e w' => e = .returned (.pointer (some ⟨w.heap.size + 2, 0, none⟩)) ∧ Box4 w' (w.heap.size + 2) 55 (.slice a0 d.nb c0) (.slice a1 d.nc c1) (.slice a2 d.ns c2) (.map (some (w.heap.size + 1))) ∧ MapI w' (w.heap.size + 1) (lastM d.A d.D d.nc) ∧ Below w.heap.size w w') := fun w h => driveOf_any d a0 a1 a2 c0 c1 c2 hd.nc w h.2.1
 have SN : Hid (∀ (q dq dm : Nat) (w : World), q < 2 → Box4 w dq 55 (.slice a0 d.nb c0) (.slice a1 d.nc c1) (.slice a2 d.ns c2) (.map (some dm)) → MapI w dm (lastM d.A d.D d.nc) → DiskV w d a0 a1 a2 → Calls Tryz.prog 55 #[.pointer (some ⟨dq, 0, none⟩), .int .i64 (q : Int)] w fun e w' => e = .returned (.string (d.rd q)) ∧ Below w.heap.size w w') := fun q dq dm w hq h1 h2 h3 => stands_any d a0 c0 dq dm q _ _ (by omega) hd.nb2 w h1 h2 h3.1
 have UN : Hid (∀ (q b c : Nat) (w : World), q < 2 → (d.rd q).size ≤ c → Code8 w (some ⟨b, 0, none⟩) (d.rd q).size (strB (d.rd q)) → Tabs w → Calls Tryz.prog 54 #[.string k, .int .i64 (q : Int), .slice (some ⟨b, 0, none⟩) (d.rd q).size c] w fun e w' => e = .returned (.tuple #[.agg #[.int .i64 (opE k d q), .string (opD k d q)], .int .i64 (opC k d q)]) ∧ Below w.heap.size w w') := fun q b c w hq hc h1 h2 => unsealed_any k q _ _ c _ (strB_lt _) hk (by omega) (by have := Dk.rd_le hd q (by omega); omega) hc w h1 h2
 have OC : Hid (∀ q, (opS k d q = true → opC k d q = 0) ∧ (opS k d q = false → opC k d q = 10)) := fun q => ⟨fun h => (rd_yes h).2.2, fun h => (rd_no h).2.2⟩
 have HV : Hid (DiskV w d a0 a1 a2) := h
 have HT : Hid (Tabs w) := ht
 have A1 : Hid (Below w.heap.size w (w.alloc (.cells #[.slice a0 d.nb c0, .slice a1 d.nc c1, .slice a2 d.ns c2] 29))) := (Below.refl _ _).alloc (Nat.le_refl _) _
 have BX : Hid (Box3 (w.alloc (.cells #[.slice a0 d.nb c0, .slice a1 d.nc c1, .slice a2 d.ns c2] 29)) w.heap.size 29 (.slice a0 d.nb c0) (.slice a1 d.nc c1) (.slice a2 d.ns c2)) := Box3.made _ _ _ _ _
 have t0 := BX.out.c0
 have t1 := BX.out.c1
 have t2 := BX.out.c2
 clear h ht hk hd hn
 go_enter Tryz.func35, Tryz.ntmps35
 go_wp2_with fail
 clear t0 t1 t2 BX
 generalize (w.alloc (.cells #[.slice a0 d.nb c0, .slice a1 d.nc c1, .slice a2 d.ns c2] 29)) = v0 at *
 refine (DO.out _ (HV.out.below A1.out)).mono ?_
 rintro e v1 ⟨rfl, hq4, hmi, hb⟩
 replace A1 : Hid (Below w.heap.size w v1) := A1.out.trans (hb.mono A1.out.size)
 obtain ⟨dq, hdq⟩ : ∃ x, x = v0.heap.size + 2 := ⟨_, rfl⟩
 obtain ⟨dm, hdm⟩ : ∃ x, x = v0.heap.size + 1 := ⟨_, rfl⟩
 rw [← hdq, ← hdm] at hq4
 rw [← hdm] at hmi
 rw [← hdq]
 have Q4 : Hid (Box4 v1 dq 55 (.slice a0 d.nb c0) (.slice a1 d.nc c1) (.slice a2 d.ns c2) (.map (some dm))) := hq4
 have MI : Hid (MapI v1 dm (lastM d.A d.D d.nc)) := hmi
 clear hb hq4 hmi hdq hdm DO
 go_wp2
 go_loopw [6, 12] (fun pv i wr => ∃ q : Nat, q ≤ 2 ∧ i = .int .i64 (q : Int) ∧ Bt wr pv (bst k d q) ∧ Box4 wr dq 55 (.slice a0 d.nb c0) (.slice a1 d.nc c1) (.slice a2 d.ns c2) (.map (some dm)) ∧ MapI wr dm (lastM d.A d.D d.nc) ∧ Below w.heap.size w wr) (fun _ i _ => 2 - (intOf i).toNat)
 case atStart => exact ⟨0, by omega, rfl, .inl ⟨rfl, rfl⟩, Q4.out, MI.out, A1.out⟩
 case round =>
  clear Q4 MI A1
  obtain ⟨q, hq, rfl, bt, q4, mi, hb⟩ := hrel
  have BT : Hid (Bt wr u6 (bst k d q)) := bt
  have Q4 : Hid (Box4 wr dq 55 (.slice a0 d.nb c0) (.slice a1 d.nc c1) (.slice a2 d.ns c2) (.map (some dm))) := q4
  have MI : Hid (MapI wr dm (lastM d.A d.D d.nc)) := mi
  have A1 : Hid (Below w.heap.size w wr) := hb
  clear bt q4 mi hb
  by_cases hlt : q < 2
  ·have y1 : (q : Int) < 2 := by omega
   go_wp2_with fail
   refine wp_scope_end 0 (by rfl) ?_
   go_wp2_with fail
   refine (SN.out q dq dm _ hlt Q4.out MI.out (HV.out.below A1.out)).mono ?_
   rintro e v2 ⟨rfl, hb⟩
   replace BT : Hid (Bt v2 u6 (bst k d q)) := BT.out.below hb
   replace Q4 : Hid (Box4 v2 dq 55 (.slice a0 d.nb c0) (.slice a1 d.nc c1) (.slice a2 d.ns c2) (.map (some dm))) := Q4.out.below hb
   replace MI : Hid (MapI v2 dm (lastM d.A d.D d.nc)) := MI.out.below hb
   replace A1 : Hid (Below w.heap.size w v2) := A1.out.trans (hb.mono A1.out.size)
   clear hb
   have UQ : Hid (∀ (b c : Nat) (w : World), (d.rd q).size ≤ c → Code8 w (some ⟨b, 0, none⟩) (d.rd q).size (strB (d.rd q)) → Tabs w → Calls Tryz.prog 54 #[.string k, .int .i64 (q : Int), .slice (some ⟨b, 0, none⟩) (d.rd q).size c] w fun e w' => e = .returned (.tuple #[.agg #[.int .i64 (opE k d q), .string (opD k d q)], .int .i64 (opC k d q)]) ∧ Below w.heap.size w w') := fun b c w => UN.out q b c w hlt
   have hst : bst k d (q + 1) = if opS k d q = true ∧ (bst k d q).1 < opE k d q then (opE k d q, opD k d q) else bst k d q := rfl
   have HST : Hid (bst k d (q + 1) = if opS k d q = true ∧ (bst k d q).1 < opE k d q then (opE k d q, opD k d q) else bst k d q) := hst
   have HP : Hid (opS k d q = true → 1 ≤ opE k d q) := fun h => opE_pos h
   have HN : Hid (0 ≤ (bst k d q).1) := bst_nn k d q
   have HC : Hid ((opS k d q = true → opC k d q = 0) ∧ (opS k d q = false → opC k d q = 10)) := OC.out q
   clear hst UN OC SN
   generalize d.rd q = t at *
   generalize opE k d q = E at *
   generalize opD k d q = D at *
   generalize opC k d q = C at *
   generalize opS k d q = S at *
   generalize bst k d q = X at *
   obtain ⟨v3, gc, hcv, hk3, hb, hgc⟩ := bytesOfM t v2
   replace BT : Hid (Bt v3 u6 X) := BT.out.below hb
   replace Q4 : Hid (Box4 v3 dq 55 (.slice a0 d.nb c0) (.slice a1 d.nc c1) (.slice a2 d.ns c2) (.map (some dm))) := Q4.out.below hb
   replace MI : Hid (MapI v3 dm (lastM d.A d.D d.nc)) := MI.out.below hb
   replace A1 : Hid (Below w.heap.size w v3) := A1.out.trans (hb.mono A1.out.size)
   have K3 : Hid (Code8 v3 (some ⟨v2.heap.size, 0, none⟩) t.size (strB t)) := hk3
   have GC : Hid (t.size ≤ gc) := hgc
   clear hb hk3 hgc
   go_wp2_with fail
   refine (UQ.out _ _ _ GC.out K3.out (HT.out.below A1.out)).mono ?_
   rintro e v4 ⟨rfl, hb⟩
   replace BT : Hid (Bt v4 u6 X) := BT.out.below hb
   replace Q4 : Hid (Box4 v4 dq 55 (.slice a0 d.nb c0) (.slice a1 d.nc c1) (.slice a2 d.ns c2) (.map (some dm))) := Q4.out.below hb
   replace MI : Hid (MapI v4 dm (lastM d.A d.D d.nc)) := MI.out.below hb
   replace A1 : Hid (Below w.heap.size w v4) := A1.out.trans (hb.mono A1.out.size)
   clear hb K3 GC UQ hcv
   have hb : Below v4.heap.size v4 (v4.alloc (.cells #[.int .i64 E, .string D] 64)) := (Below.refl _ _).alloc (Nat.le_refl _) _
   have S0 : Hid (Sl2 v4.heap.size E D (v4.alloc (.cells #[.int .i64 E, .string D] 64))) := Sl2.made v4 _ _ _
   replace BT : Hid (Bt (v4.alloc (.cells #[.int .i64 E, .string D] 64)) u6 X) := BT.out.below hb
   replace Q4 : Hid (Box4 (v4.alloc (.cells #[.int .i64 E, .string D] 64)) dq 55 (.slice a0 d.nb c0) (.slice a1 d.nc c1) (.slice a2 d.ns c2) (.map (some dm))) := Q4.out.below hb
   replace MI : Hid (MapI (v4.alloc (.cells #[.int .i64 E, .string D] 64)) dm (lastM d.A d.D d.nc)) := MI.out.below hb
   replace A1 : Hid (Below w.heap.size w (v4.alloc (.cells #[.int .i64 E, .string D] 64))) := A1.out.trans (hb.mono A1.out.size)
   clear hb
   cases S with
   | false =>
    obtain rfl : C = 10 := HC.out.2 rfl
    have HX : Hid (bst k d (q + 1) = X) := by show bst k d (q + 1) = X; rw [HST.out, if_neg (by simp)]
    clear HC HST HP HN
    go_wp2_with fail
    go_step3
    rename_i Qj Kj hKj
    refine And.intro rfl ?_
    go_wp2
    exact ⟨⟨q + 1, by omega, by go_num, by rw [HX.out]; exact BT.out, Q4.out, MI.out, A1.out⟩, by simp [intOf]; omega⟩
   | true =>
    obtain rfl : C = 0 := HC.out.1 rfl
    have hE : 1 ≤ E := HP.out rfl
    clear HC HP
    go_wp2_with fail
    have s0 := S0.out.c0
    rcases BT.out with ⟨h0, rfl⟩ | ⟨hne, pb, rfl, hsl⟩
    ·have HX : Hid (bst k d (q + 1) = (E, D)) := by show bst k d (q + 1) = _; rw [HST.out, if_pos ⟨trivial, by omega⟩]
     clear HST HN
     go_region
     go_wp2
     refine wp_label ?_
     change Exit.inBlock 1 _ Exit.normal _ _
     have hb : Below (v4.alloc (.cells #[.int .i64 E, .string D] 64)).heap.size (v4.alloc (.cells #[.int .i64 E, .string D] 64)) (v4.alloc (.cells #[.int .i64 E, .string D] 64)).drew := (Below.refl _ _).drew
     have R : Hid (Bt (v4.alloc (.cells #[.int .i64 E, .string D] 64)).drew (.pointer (some ⟨v4.heap.size, 0, none⟩)) (E, D)) := .inr ⟨by show E ≠ 0; omega, v4.heap.size, rfl, S0.out.below hb⟩
     have Q5 := Q4.out.below hb
     have M5 := MI.out.below hb
     have A5 : Hid (Below w.heap.size w (v4.alloc (.cells #[.int .i64 E, .string D] 64)).drew) := A1.out.drew
     clear hb
     go_wp2
     exact ⟨⟨q + 1, by omega, by go_num, by rw [HX.out]; exact R.out, Q5, M5, A5.out⟩, by simp [intOf]; omega⟩
    ·have b0 := hsl.c0
     by_cases hgt : X.1 < E
     ·have HX : Hid (bst k d (q + 1) = (E, D)) := by show bst k d (q + 1) = _; rw [HST.out, if_pos ⟨trivial, hgt⟩]
      clear HST HN
      go_region
      go_wp2
      refine wp_label ?_
      change Exit.inBlock 1 _ Exit.normal _ _
      have hb : Below (v4.alloc (.cells #[.int .i64 E, .string D] 64)).heap.size (v4.alloc (.cells #[.int .i64 E, .string D] 64)) (v4.alloc (.cells #[.int .i64 E, .string D] 64)).drew := (Below.refl _ _).drew
      have R : Hid (Bt (v4.alloc (.cells #[.int .i64 E, .string D] 64)).drew (.pointer (some ⟨v4.heap.size, 0, none⟩)) (E, D)) := .inr ⟨by show E ≠ 0; omega, v4.heap.size, rfl, S0.out.below hb⟩
      have Q5 := Q4.out.below hb
      have M5 := MI.out.below hb
      have A5 : Hid (Below w.heap.size w (v4.alloc (.cells #[.int .i64 E, .string D] 64)).drew) := A1.out.drew
      clear hb
      go_wp2
      exact ⟨⟨q + 1, by omega, by go_num, by rw [HX.out]; exact R.out, Q5, M5, A5.out⟩, by simp [intOf]; omega⟩
     ·have HX : Hid (bst k d (q + 1) = X) := by show bst k d (q + 1) = _; rw [HST.out, if_neg (fun h => hgt h.2)]
      clear HST HN
      go_region
      go_wp2
      refine wp_label ?_
      change Exit.inBlock 1 _ Exit.normal _ _
      have hb : Below (v4.alloc (.cells #[.int .i64 E, .string D] 64)).heap.size (v4.alloc (.cells #[.int .i64 E, .string D] 64)) (v4.alloc (.cells #[.int .i64 E, .string D] 64)).drew := (Below.refl _ _).drew
      have R : Hid (Bt (v4.alloc (.cells #[.int .i64 E, .string D] 64)).drew (.pointer (some ⟨pb, 0, none⟩)) X) := BT.out.below hb
      have Q5 := Q4.out.below hb
      have M5 := MI.out.below hb
      have A5 : Hid (Below w.heap.size w (v4.alloc (.cells #[.int .i64 E, .string D] 64)).drew) := A1.out.drew
      clear hb
      go_wp2
      exact ⟨⟨q + 1, by omega, by go_num, by rw [HX.out]; exact R.out, Q5, M5, A5.out⟩, by simp [intOf]; omega⟩
  ·obtain rfl : q = 2 := by omega
   have y1 : ¬ ((2 : Nat) : Int) < 2 := by omega
   go_wp2
   go_ret
   exact ⟨⟨_, rfl, BT.out⟩, A1.out⟩
end Go.Proofs.YtboekhegbachpaaGreatDoor
namespace Go.Proofs.YtboekhegbachpaaGreatDoor
open Go.ChangeShapes Go.WideShapes Go.ChangeAt Go.RowKit
set_option linter.unusedVariables false
theorem sfAns_zero {k s : ByteArray} {d : Dk} (h : SfAns k s d 0) : k.size = 32 ∧ d.Ok ∧ 2 ≤ d.nb := by
 rcases h with ⟨_, h⟩ | ⟨_, _, _, h⟩ | ⟨_, _, _, _, h⟩ | ⟨h1, _, h3, h4, _⟩
 ·cases h
 ·cases h
 ·cases h
 ·exact ⟨h1, h3, h4⟩
end Go.Proofs.YtboekhegbachpaaGreatDoor
namespace Go.Proofs.YtboekhegbachpaaGreatDoor
open Go.ChangeShapes Go.WideShapes Go.ChangeAt Go.RowKit
set_option linter.unusedVariables false
theorem bst_lt (k : ByteArray) (d : Dk) : ∀ q, (bst k d q).1 < 4294967296
 | 0 => by show (0 : Int) < 4294967296; omega
 | q + 1 => by
  unfold bst
  split
  ·rename_i h
   show opE k d q < 4294967296
   have h1 := (rd_yes h.1).1
   have h2 := Sha.word_lt (strB (d.rd q)) 0
   unfold opE
   rw [h1]
   omega
  ·exact bst_lt k d q
def SpAns (k s : ByteArray) (d : Dk) (n : Nat) (x : Int) (t : ByteArray) (code : Int) : Prop := ∃ cf, SfAns k s d cf ∧ ((cf ≠ 0 ∧ n = 0 ∧ code = cf) ∨ (cf = 0 ∧ ¬ SlotR ((bst k d 2).1 + 1) s ∧ n = 0 ∧ code = 7) ∨ (cf = 0 ∧ SlotR ((bst k d 2).1 + 1) s ∧ n = 3 ∧ code = 0 ∧ ∃ e : Nat, (bst k d 2).1 + 1 = (e : Int) ∧ x = ((e % 2 : Nat) : Int) ∧ t = planT k e s))
theorem spAns_ex (k s : ByteArray) (d : Dk) : ∃ n x t code, SpAns k s d n x t code := by
 obtain ⟨cf, h⟩ := sfAns_ex k s d
 by_cases h0 : cf = 0
 ·by_cases h1 : SlotR ((bst k d 2).1 + 1) s
  ·have := bst_nn k d 2
   exact ⟨3, _, _, 0, cf, h, .inr (.inr ⟨h0, h1, rfl, rfl, ((bst k d 2).1 + 1).toNat, by omega, rfl, rfl⟩)⟩
  ·exact ⟨0, 0, ⟨#[]⟩, 7, cf, h, .inr (.inl ⟨h0, h1, rfl, rfl⟩)⟩
 ·exact ⟨0, 0, ⟨#[]⟩, cf, cf, h, .inl ⟨h0, rfl, rfl⟩⟩
def RetP (B : Nat) (w' : World) (e : Ending) (n : Nat) (x : Int) (t : ByteArray) (code : Int) : Prop := ∃ a c b, e = .returned (.tuple #[.slice a n c, .int .i64 code]) ∧ (n = 0 ∨ (n = 3 ∧ c = 3 ∧ a = some ⟨b, 0, none⟩ ∧ B ≤ b ∧ PlanR w' b x t))
set_option maxRecDepth 100000 in
set_option maxHeartbeats 4000000 in
theorem implPlan_any (k s : ByteArray) (d : Dk) (a0 a1 a2 : Option Addr) (c0 c1 c2 : Nat) (n : Nat) (x : Int) (t : ByteArray) (code : Int) (hr : SpAns k s d n x t code) (hs : d.nb ≤ 1048576 ∧ d.nc ≤ 1048576 ∧ d.ns ≤ 1048576) (p0 p1 : Addr) (w : World) (h : DiskV w d a0 a1 a2) (hE0 : ErrAt w 3 p0) (hE1 : ErrAt w 4 p1) (ht : Tabs w) :
  Calls Tryz.prog 18 #[.string k, .agg #[.slice a0 d.nb c0, .slice a1 d.nc c1, .slice a2 d.ns c2], .string s] w fun e w' => RetP w.heap.size w' e n x t code ∧ Below w.heap.size w w' := by
 obtain ⟨cf, hf, hr⟩ := hr
 have FA : Hid (∀ w : World, DiskV w d a0 a1 a2 → ErrAt w 3 p0 → ErrAt w 4 p1 → Calls Tryz.prog 34 #[.string k, .string s, .agg #[.slice a0 d.nb c0, .slice a1 d.nc c1, .slice a2 d.ns c2]] w fun e w' => e = .returned (.int .i64 cf) ∧ Below w.heap.size w w') := fun w h1 h2 h3 => slotsFault_any k s d a0 a1 a2 c0 c1 c2 cf hf hs p0 p1 w h1 h2 h3
 have BX : Hid (Box3 (w.alloc (.cells #[.slice a0 d.nb c0, .slice a1 d.nc c1, .slice a2 d.ns c2] 29)) w.heap.size 29 (.slice a0 d.nb c0) (.slice a1 d.nc c1) (.slice a2 d.ns c2)) := Box3.made _ _ _ _ _
 have A1 : Hid (Below w.heap.size w (w.alloc (.cells #[.slice a0 d.nb c0, .slice a1 d.nc c1, .slice a2 d.ns c2] 29))) := (Below.refl _ _).alloc (Nat.le_refl _) _
 have HV : Hid (DiskV w d a0 a1 a2) := h
 have HE : Hid (ErrAt w 3 p0 ∧ ErrAt w 4 p1) := ⟨hE0, hE1⟩
 have HT : Hid (Tabs w) := ht
 have t0 := BX.out.c0
 have t1 := BX.out.c1
 have t2 := BX.out.c2
 clear h hE0 hE1 ht
 by_cases h0 : cf = 0
 ·subst h0
  obtain ⟨k1, k2, k3⟩ := sfAns_zero hf
  have BT : Hid (∀ w : World, DiskV w d a0 a1 a2 → Tabs w → Calls Tryz.prog 35 #[.string k, .agg #[.slice a0 d.nb c0, .slice a1 d.nc c1, .slice a2 d.ns c2]] w fun e w' => (∃ pv, e = .returned pv ∧ Bt w' pv (bst k d 2)) ∧ Below w.heap.size w w') := fun w h1 h2 => better_any k d a0 a1 a2 c0 c1 c2 k1 k2 k3 w h1 h2
  obtain ⟨r, hrr⟩ := bool_cases (SlotR ((bst k d 2).1 + 1) s)
  have SK : Hid (∀ w : World, Calls Tryz.prog 36 #[.agg #[.int .i64 ((bst k d 2).1 + 1), .string s]] w fun e w' => e = .returned (.bool r) ∧ Below w.heap.size w w') := fun w => implSlotOK_any _ s r hrr w
  have nn := bst_nn k d 2
  have ll := bst_lt k d 2
  have SA : Hid (∀ (e0 : Nat) (w : World), (bst k d 2).1 + 1 = (e0 : Int) → e0 < 4294967296 → s.size ≤ 170 → Tabs w → Calls Tryz.prog 37 #[.string k, .agg #[.int .i64 (e0 : Int), .string s]] w fun e w' => (∃ b, e = .returned (.slice (some ⟨b, 0, none⟩) 3 3) ∧ w.heap.size ≤ b ∧ PlanR w' b ((e0 % 2 : Nat) : Int) (planT k e0 s)) ∧ Below w.heap.size w w') := fun e0 w _ h1 h2 h3 => slotActs_any k s e0 k1 h1 h2 w h3
  have HR : Hid ((r = false ∧ n = 0 ∧ code = 7) ∨ (r = true ∧ n = 3 ∧ code = 0 ∧ ∃ e : Nat, (bst k d 2).1 + 1 = (e : Int) ∧ e < 4294967296 ∧ s.size ≤ 170 ∧ x = ((e % 2 : Nat) : Int) ∧ t = planT k e s)) := by
   rcases hr with ⟨h1, _⟩ | ⟨_, h1, h2, h3⟩ | ⟨_, h1, h2, h3, e, h4, h5, h6⟩
   ·exact absurd rfl h1
   ·exact .inl ⟨Bool.eq_false_iff.2 (fun h => h1 (hrr.1 h)), h2, h3⟩
   ·have h7 := h1
    unfold SlotR at h7
    exact .inr ⟨hrr.2 h1, h2, h3, e, h4, by omega, h7.2.2, h5, h6⟩
  obtain ⟨X, hX⟩ : ∃ X, X = bst k d 2 := ⟨_, rfl⟩
  rw [← hX] at BT SK SA HR nn ll
  have wr1 : IntKind.i64.wrap (X.1 + 1) = X.1 + 1 := IntWalk.i64_in _ ⟨by omega, by omega⟩
  clear hf hs k1 k2 k3 hX hr hrr
  go_enter Tryz.func18, Tryz.ntmps18
  go_wp2_with fail
  clear t0 t1 t2
  generalize (w.alloc (.cells #[.slice a0 d.nb c0, .slice a1 d.nc c1, .slice a2 d.ns c2] 29)) = v0 at *
  refine (FA.out _ (HV.out.below A1.out) (HE.out.1.below A1.out) (HE.out.2.below A1.out)).mono ?_
  rintro e v1 ⟨rfl, hb⟩
  replace A1 : Hid (Below w.heap.size w v1) := A1.out.trans (hb.mono A1.out.size)
  replace BX : Hid (Box3 v1 w.heap.size 29 (.slice a0 d.nb c0) (.slice a1 d.nc c1) (.slice a2 d.ns c2)) := BX.out.below hb
  clear hb FA HE
  have hb : Below v1.heap.size v1 (v1.alloc (.cells #[.int .i64 1, .string s] 64)) := (Below.refl _ _).alloc (Nat.le_refl _) _
  have NX : Hid (Sl2 v1.heap.size 1 s (v1.alloc (.cells #[.int .i64 1, .string s] 64))) := Sl2.made v1 _ _ _
  have NL : Hid (w.heap.size ≤ v1.heap.size) := A1.out.size
  replace BX : Hid (Box3 (v1.alloc (.cells #[.int .i64 1, .string s] 64)) w.heap.size 29 (.slice a0 d.nb c0) (.slice a1 d.nc c1) (.slice a2 d.ns c2)) := BX.out.below hb
  replace A1 : Hid (Below w.heap.size w (v1.alloc (.cells #[.int .i64 1, .string s] 64))) := A1.out.trans (hb.mono A1.out.size)
  have t0 := BX.out.c0
  have t1 := BX.out.c1
  have t2 := BX.out.c2
  clear hb
  go_wp2_with fail
  clear t0 t1 t2 BX
  generalize (v1.alloc (.cells #[.int .i64 1, .string s] 64)) = v2 at *
  obtain ⟨nb, hnb⟩ : ∃ y, y = v1.heap.size := ⟨_, rfl⟩
  rw [← hnb] at NX NL ⊢
  clear hnb
  refine (BT.out _ (HV.out.below A1.out) (HT.out.below A1.out)).mono ?_
  rintro e v3 ⟨⟨pv, rfl, hbt⟩, hb⟩
  replace A1 : Hid (Below w.heap.size w v3) := A1.out.trans (hb.mono A1.out.size)
  replace NX : Hid (Sl2 nb 1 s v3) := NX.out.below hb
  have BZ : Hid (Bt v3 pv X) := hbt
  clear hb hbt BT
  have n0 := NX.out.c0
  have n1 := NX.out.c1
  have n2 := NX.out.fr 0
  rcases BZ.out with ⟨hx0, rfl⟩ | ⟨hne, pb, rfl, hsl⟩
  ·have N2 : Hid (Sl2 nb (X.1 + 1) s v3) := by rw [hx0]; exact NX.out
   have n0' : v3.cell? ⟨nb, 0, none⟩ = some (.int .i64 (X.1 + 1)) := N2.out.c0
   clear n0 n2 NX hx0
   go_wp2_with fail
   clear n0' n1
   refine (SK.out _).mono ?_
   rintro e v4 ⟨rfl, hb⟩
   replace A1 : Hid (Below w.heap.size w v4) := A1.out.trans (hb.mono A1.out.size)
   have N4 := N2.out.below hb
   have m0 := N4.c0
   have m1 := N4.c1
   clear hb N4 N2 SK
   rcases HR.out with ⟨rfl, rfl, rfl⟩ | ⟨rfl, rfl, rfl, e0, he, h1, h2, rfl, rfl⟩
   ·clear HR
    go_wp2
    go_ret2
    exact ⟨⟨none, 0, 0, rfl, .inl rfl⟩, A1.out⟩
   ·have SB := SA.out e0
    rw [he] at m0
    have SC : Hid (∀ w : World, Tabs w → Calls Tryz.prog 37 #[.string k, .agg #[.int .i64 (e0 : Int), .string s]] w fun e w' => (∃ b, e = .returned (.slice (some ⟨b, 0, none⟩) 3 3) ∧ w.heap.size ≤ b ∧ PlanR w' b ((e0 % 2 : Nat) : Int) (planT k e0 s)) ∧ Below w.heap.size w w') := fun w h3 => SB w he h1 h2 h3
    clear HR SA SB he h1 h2
    go_wp2_with fail
    refine (SC.out _ (HT.out.below A1.out)).mono ?_
    rintro e v5 ⟨⟨b, rfl, hbb, hpl⟩, hb⟩
    have PL : Hid (PlanR v5 b ((e0 % 2 : Nat) : Int) (planT k e0 s)) := hpl
    have LB : Hid (w.heap.size ≤ b) := Nat.le_trans A1.out.size hbb
    replace A1 : Hid (Below w.heap.size w v5) := A1.out.trans (hb.mono A1.out.size)
    clear hb hpl hbb SC m0 m1
    go_wp2
    go_ret2
    exact ⟨⟨_, _, b, rfl, .inr ⟨rfl, rfl, rfl, LB.out, PL.out⟩⟩, A1.out⟩
  ·have b0 := hsl.c0
   have N2 : Hid (Sl2 nb (X.1 + 1) s (v3.setCell ⟨nb, 0, none⟩ (.int .i64 (X.1 + 1)))) := NX.out.putE _
   replace A1 : Hid (Below w.heap.size w (v3.setCell ⟨nb, 0, none⟩ (.int .i64 (X.1 + 1)))) := A1.out.setCell NL.out _
   have m0 := N2.out.c0
   have m1 := N2.out.c1
   go_wp2_with fail
   clear n0 n1 n2 b0 m0 m1 hsl hne BZ NX
   generalize (v3.setCell ⟨nb, 0, none⟩ (.int .i64 (X.1 + 1))) = v3' at *
   refine (SK.out _).mono ?_
   rintro e v4 ⟨rfl, hb⟩
   replace A1 : Hid (Below w.heap.size w v4) := A1.out.trans (hb.mono A1.out.size)
   have N4 := N2.out.below hb
   have m0 := N4.c0
   have m1 := N4.c1
   clear hb N4 N2 SK
   rcases HR.out with ⟨rfl, rfl, rfl⟩ | ⟨rfl, rfl, rfl, e0, he, h1, h2, rfl, rfl⟩
   ·clear HR
    go_wp2
    go_ret2
    exact ⟨⟨none, 0, 0, rfl, .inl rfl⟩, A1.out⟩
   ·have SB := SA.out e0
    rw [he] at m0
    have SC : Hid (∀ w : World, Tabs w → Calls Tryz.prog 37 #[.string k, .agg #[.int .i64 (e0 : Int), .string s]] w fun e w' => (∃ b, e = .returned (.slice (some ⟨b, 0, none⟩) 3 3) ∧ w.heap.size ≤ b ∧ PlanR w' b ((e0 % 2 : Nat) : Int) (planT k e0 s)) ∧ Below w.heap.size w w') := fun w h3 => SB w he h1 h2 h3
    clear HR SA SB he h1 h2
    go_wp2_with fail
    refine (SC.out _ (HT.out.below A1.out)).mono ?_
    rintro e v5 ⟨⟨b, rfl, hbb, hpl⟩, hb⟩
    have PL : Hid (PlanR v5 b ((e0 % 2 : Nat) : Int) (planT k e0 s)) := hpl
    have LB : Hid (w.heap.size ≤ b) := Nat.le_trans A1.out.size hbb
    replace A1 : Hid (Below w.heap.size w v5) := A1.out.trans (hb.mono A1.out.size)
    clear hb hpl hbb SC m0 m1
    go_wp2
    go_ret2
    exact ⟨⟨_, _, b, rfl, .inr ⟨rfl, rfl, rfl, LB.out, PL.out⟩⟩, A1.out⟩
 ·have x1 : (cf != 0) = true := by rw [bne_iff_ne]; exact h0
  obtain ⟨rfl, rfl⟩ : n = 0 ∧ code = cf := by
   rcases hr with ⟨_, h2, h3⟩ | ⟨h1, _⟩ | ⟨h1, _⟩
   ·exact ⟨h2, h3⟩
   ·exact absurd h1 h0
   ·exact absurd h1 h0
  clear hf hs hr h0
  go_enter Tryz.func18, Tryz.ntmps18
  go_wp2_with fail
  clear t0 t1 t2
  generalize (w.alloc (.cells #[.slice a0 d.nb c0, .slice a1 d.nc c1, .slice a2 d.ns c2] 29)) = v0 at *
  refine (FA.out _ (HV.out.below A1.out) (HE.out.1.below A1.out) (HE.out.2.below A1.out)).mono ?_
  rintro e v1 ⟨rfl, hb⟩
  replace A1 : Hid (Below w.heap.size w v1) := A1.out.trans (hb.mono A1.out.size)
  clear hb BX FA
  go_wp2
  go_ret2
  exact ⟨⟨none, 0, 0, rfl, .inl rfl⟩, A1.out⟩
end Go.Proofs.YtboekhegbachpaaGreatDoor
