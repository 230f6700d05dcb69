/-
  Texts of the proof, joined: PlanS.
-/
import Derived.Test.YtboekhegbachpaaGreatDoorS44
import Derived.Test.YtboekhegbachpaaGreatDoorS49
namespace Go.Proofs.YtboekhegbachpaaGreatDoor
open Go.ChangeShapes Go.WideShapes Go.ChangeAt Go.RowKit
set_option linter.unusedVariables false
theorem fieldSlot0 (E : Int) (D : ByteArray) (w : World) : (Instr.field 64 (.agg #[.int .i64 E, .string D]) 0).run Tryz.prog w = .ok (.int .i64 E) w := by kernel_rfl
set_option maxRecDepth 100000 in
set_option maxHeartbeats 4000000 in
theorem l06Plan_any (k s : ByteArray) (d : Dk) (a0 a1 a2 : Option Addr) (c0 c1 c2 e0 : Nat) (hk : k.size = 32) (hd : d.Ok) (hn : 2 ≤ d.nb) (he : (bst k d 2).1 + 1 = (e0 : Int)) (he2 : e0 < 4294967296) (hs : s.size ≤ 170) (w : World) (h : DiskV w d a0 a1 a2) :
  Calls Tryz.prog 31 #[.string k, .agg #[.slice a0 d.nb c0, .slice a1 d.nc c1, .slice a2 d.ns c2], .string s] w fun e w' => (∃ b, e = .returned (.slice (some ⟨b, 0, none⟩) 3 3) ∧ w.heap.size ≤ b ∧ PlanR w' b ((e0 % 2 : Nat) : Int) (planT k e0 s)) ∧ Below w.heap.size w w' := by
 have OP : Hid (∀ w : World, DiskV w d a0 a1 a2 → Calls Tryz.prog 30 #[.string k, .agg #[.slice a0 d.nb c0, .slice a1 d.nc c1, .slice a2 d.ns c2]] w fun e w' => e = .returned (.agg #[.int .i64 (bst k d 2).1, .string (bst k d 2).2]) ∧ Below w.heap.size w w') := fun w h => l06Open_any k d a0 a1 a2 c0 c1 c2 hk hd hn w h
 have BY : Hid (∀ w : World, Calls Tryz.prog 49 #[.string k, .int .i64 ((e0 % 2 : Nat) : Int), .agg #[.int .i64 (e0 : Int), .string s]] w fun e w' => RetM w.heap.size w' e (20 + s.size) (slotF k (e0 % 2) e0 s) ∧ Below w.heap.size w w') := fun w => l06Bytes_any k s (e0 % 2) e0 hk (by omega) he2 (by omega) w
 have HP : Hid (planT k e0 s = kstr (slotF k (e0 % 2) e0 s) 0 (20 + s.size)) := rfl
 generalize planT k e0 s = PT at *
 generalize slotF k (e0 % 2) e0 s = F at *
 have nn := bst_nn k d 2
 generalize (bst k d 2).1 = BE at *
 generalize (bst k d 2).2 = BD at *
 have wr1 : IntKind.i64.wrap (BE + 1) = BE + 1 := IntWalk.i64_in _ ⟨by omega, by omega⟩
 obtain rfl : BE = (e0 : Int) - 1 := by omega
 have es : (e0 : Int) - 1 + 1 = (e0 : Int) := by omega
 rw [es] at wr1
 have em := tmod2 e0
 have em2 : ((e0 : Nat) : Int) % 2 = ((e0 % 2 : Nat) : Int) := by omega
 generalize e0 % 2 = P at *
 have BX : Hid (Box3 (w.alloc (.cells #[.slice a0 d.nb c0, .slice a1 d.nc c1, .slice a2 d.ns c2] 29)) w.heap.size 29 (.slice a0 d.nb c0) (.slice a1 d.nc c1) (.slice a2 d.ns c2)) := Box3.made _ _ _ _ _
 have A1 : Hid (Below w.heap.size w (w.alloc (.cells #[.slice a0 d.nb c0, .slice a1 d.nc c1, .slice a2 d.ns c2] 29))) := (Below.refl _ _).alloc (Nat.le_refl _) _
 have HV : Hid (DiskV w d a0 a1 a2) := h
 have t0 := BX.out.c0
 have t1 := BX.out.c1
 have t2 := BX.out.c2
 clear h hk hd hn he he2 hs
 go_enter Tryz.func31, Tryz.ntmps31
 go_wp2_with fail
 clear t0 t1 t2 BX
 generalize (w.alloc (.cells #[.slice a0 d.nb c0, .slice a1 d.nc c1, .slice a2 d.ns c2] 29)) = v0 at *
 refine (OP.out _ (HV.out.below A1.out)).mono ?_
 rintro e v1 ⟨rfl, hb⟩
 replace A1 : Hid (Below w.heap.size w v1) := A1.out.trans (hb.mono A1.out.size)
 clear hb OP HV
 have fi := fieldSlot0 ((e0 : Int) - 1) BD v1
 go_wp2_with fail
 clear fi
 refine (BY.out _).mono ?_
 rintro e v2 ⟨⟨g, c, rfl, hg, hm⟩, hb⟩
 have hcv := kstr_of_code (c := c) hm.code
 rw [← HP.out] at hcv
 replace A1 : Hid (Below w.heap.size w v2) := A1.out.trans (hb.mono A1.out.size)
 have B1 : Hid (w.heap.size ≤ v2.heap.size) := A1.out.size
 clear hb hg hm BY HP
 go_wp2
 go_ret
 exact ⟨⟨v2.heap.size, rfl, B1.out, PlanR.made v2 (P : Int) PT⟩, A1.out.alloc A1.out.size _⟩
set_option maxRecDepth 100000 in
set_option maxHeartbeats 4000000 in
theorem specPlan_any (k s : ByteArray) (d : Dk) (a0 a1 a2 : Option Addr) (c0 c1 c2 : Nat) (n : Nat) (x : Int) (t : ByteArray) (code : Int) (hr : SpAns k s d n x t code) (hs : d.nb ≤ 1048576 ∧ d.nc ≤ 1048576 ∧ d.ns ≤ 1048576) (w : World) (h : DiskV w d a0 a1 a2) :
  Calls Tryz.prog 13 #[.string k, .agg #[.slice a0 d.nb c0, .slice a1 d.nc c1, .slice a2 d.ns c2], .string s] w fun e w' => RetP w.heap.size w' e n x t code ∧ Below w.heap.size w w' := by
 obtain ⟨cf, hf, hr⟩ := hr
 have BX : Hid (Box3 (w.alloc (.cells #[.slice a0 d.nb c0, .slice a1 d.nc c1, .slice a2 d.ns c2] 29)) w.heap.size 29 (.slice a0 d.nb c0) (.slice a1 d.nc c1) (.slice a2 d.ns c2)) := Box3.made _ _ _ _ _
 have A1 : Hid (Below w.heap.size w (w.alloc (.cells #[.slice a0 d.nb c0, .slice a1 d.nc c1, .slice a2 d.ns c2] 29))) := (Below.refl _ _).alloc (Nat.le_refl _) _
 have HV : Hid (DiskV w d a0 a1 a2) := h
 have t0 := BX.out.c0
 have t1 := BX.out.c1
 have t2 := BX.out.c2
 clear h
 by_cases hkk : k.size ≤ 65536 ∧ s.size ≤ 65536
 ·have x1 : ¬ (65536 : Int) < (k.size : Int) := by omega
  have x2 : ¬ (65536 : Int) < (s.size : Int) := by omega
  have FA : Hid (∀ w : World, DiskV w d a0 a1 a2 → Calls Tryz.prog 29 #[.string k, .agg #[.slice a0 d.nb c0, .slice a1 d.nc c1, .slice a2 d.ns c2]] w fun e w' => e = .returned (.int .i64 cf) ∧ Below w.heap.size w w') := fun w h1 => l06Code_any k s d a0 a1 a2 c0 c1 c2 cf hf hkk hs w h1
  by_cases h0 : cf = 0
  ·subst h0
   obtain ⟨k1, k2, k3⟩ := sfAns_zero hf
   have OP : Hid (∀ w : World, DiskV w d a0 a1 a2 → Calls Tryz.prog 30 #[.string k, .agg #[.slice a0 d.nb c0, .slice a1 d.nc c1, .slice a2 d.ns c2]] w fun e w' => e = .returned (.agg #[.int .i64 (bst k d 2).1, .string (bst k d 2).2]) ∧ Below w.heap.size w w') := fun w h => l06Open_any k d a0 a1 a2 c0 c1 c2 k1 k2 k3 w h
   have PL : Hid (∀ (e0 : Nat) (w : World), (bst k d 2).1 + 1 = (e0 : Int) → e0 < 4294967296 → s.size ≤ 170 → DiskV w d a0 a1 a2 → Calls Tryz.prog 31 #[.string k, .agg #[.slice a0 d.nb c0, .slice a1 d.nc c1, .slice a2 d.ns c2], .string s] w fun e w' => (∃ b, e = .returned (.slice (some ⟨b, 0, none⟩) 3 3) ∧ w.heap.size ≤ b ∧ PlanR w' b ((e0 % 2 : Nat) : Int) (planT k e0 s)) ∧ Below w.heap.size w w') := fun e0 w h1 h2 h3 h4 => l06Plan_any k s d a0 a1 a2 c0 c1 c2 e0 k1 k2 k3 h1 h2 h3 w h4
   have nn := bst_nn k d 2
   have ll := bst_lt k d 2
   have HR : Hid ((¬ (s.size ≤ 170 ∧ (bst k d 2).1 ≠ 4294967295) ∧ n = 0 ∧ code = 7) ∨ (s.size ≤ 170 ∧ (bst k d 2).1 ≠ 4294967295 ∧ n = 3 ∧ code = 0 ∧ ∃ e : Nat, (bst k d 2).1 + 1 = (e : Int) ∧ e < 4294967296 ∧ x = ((e % 2 : Nat) : Int) ∧ t = planT k e s)) := by
    rcases hr with ⟨h1, _⟩ | ⟨_, h1, h2, h3⟩ | ⟨_, h1, h2, h3, e, h4, h5, h6⟩
    ·exact absurd rfl h1
    ·exact .inl ⟨fun h => h1 ⟨by omega, by omega, h.1⟩, h2, h3⟩
    ·have h7 := h1
     unfold SlotR at h7
     exact .inr ⟨h7.2.2, by omega, h2, h3, e, h4, by omega, h5, h6⟩
   generalize hB1 : (bst k d 2).1 = BE at *
   generalize (bst k d 2).2 = BD at *
   clear hf hs k1 k2 k3 hr hB1 hkk nn ll
   have go1 : True := trivial
   go_enter Tryz.func13, Tryz.ntmps13
   go_wp2_with fail
   clear t0 t1 t2
   generalize (w.alloc (.cells #[.slice a0 d.nb c0, .slice a1 d.nc c1, .slice a2 d.ns c2] 29)) = v0 at *
   refine (FA.out _ (HV.out.below A1.out)).mono ?_
   rintro e v1 ⟨rfl, hb⟩
   replace A1 : Hid (Below w.heap.size w v1) := A1.out.trans (hb.mono A1.out.size)
   replace BX : Hid (Box3 v1 w.heap.size 29 (.slice a0 d.nb c0) (.slice a1 d.nc c1) (.slice a2 d.ns c2)) := BX.out.below hb
   clear hb FA
   have t0 := BX.out.c0
   have t1 := BX.out.c1
   have t2 := BX.out.c2
   by_cases h170 : s.size ≤ 170
   ·have y1 : ¬ (170 : Int) < (s.size : Int) := by omega
    go_wp2_with fail
    clear t0 t1 t2
    refine (OP.out _ (HV.out.below A1.out)).mono ?_
    rintro e v2 ⟨rfl, hb⟩
    replace A1 : Hid (Below w.heap.size w v2) := A1.out.trans (hb.mono A1.out.size)
    replace BX : Hid (Box3 v2 w.heap.size 29 (.slice a0 d.nb c0) (.slice a1 d.nc c1) (.slice a2 d.ns c2)) := BX.out.below hb
    clear hb OP
    have t0 := BX.out.c0
    have t1 := BX.out.c1
    have t2 := BX.out.c2
    rcases HR.out with ⟨hno, rfl, rfl⟩ | ⟨h1, h2, rfl, rfl, e0, he, h3, rfl, rfl⟩
    ·have y2 : (BE == 4294967295) = true := by
      rw [beq_iff_eq]
      exact Classical.byContradiction (fun h => hno ⟨h170, h⟩)
     have fi := fieldSlot0 BE BD v2
     clear HR hno
     go_wp2
     go_ret2
     exact ⟨⟨_, _, 0, rfl, .inl rfl⟩, A1.out.alloc A1.out.size _⟩
    ·have y2 : (BE == 4294967295) = false := by rw [beq_eq_false_iff_ne]; exact h2
     have PQ : Hid (∀ w : World, DiskV w d a0 a1 a2 → Calls Tryz.prog 31 #[.string k, .agg #[.slice a0 d.nb c0, .slice a1 d.nc c1, .slice a2 d.ns c2], .string s] w fun e w' => (∃ b, e = .returned (.slice (some ⟨b, 0, none⟩) 3 3) ∧ w.heap.size ≤ b ∧ PlanR w' b ((e0 % 2 : Nat) : Int) (planT k e0 s)) ∧ Below w.heap.size w w') := fun w h4 => PL.out e0 w he h3 h1 h4
     have fi := fieldSlot0 BE BD v2
     clear HR PL he h1 h2 h3
     go_wp2_with fail
     clear fi
     clear t0 t1 t2
     refine (PQ.out _ (HV.out.below A1.out)).mono ?_
     rintro e v5 ⟨⟨b, rfl, hbb, hpl⟩, hb⟩
     have PP : Hid (PlanR v5 b ((e0 % 2 : Nat) : Int) (planT k e0 s)) := hpl
     have LB : Hid (w.heap.size ≤ b) := Nat.le_trans A1.out.size hbb
     replace A1 : Hid (Below w.heap.size w v5) := A1.out.trans (hb.mono A1.out.size)
     clear hb hpl hbb PQ BX
     go_wp2
     go_ret2
     exact ⟨⟨_, _, b, rfl, .inr ⟨rfl, rfl, rfl, LB.out, PP.out⟩⟩, A1.out⟩
   ·have y1 : (170 : Int) < (s.size : Int) := by omega
    rcases HR.out with ⟨hno, rfl, rfl⟩ | ⟨h1, _⟩
    ·clear HR hno
     go_wp2
     go_ret2
     exact ⟨⟨_, _, 0, rfl, .inl rfl⟩, A1.out.alloc A1.out.size _⟩
    ·exact absurd h1 h170
  ·have x3 : (cf != 0) = true := by rw [bne_iff_ne]; exact h0
   obtain ⟨rfl, rfl⟩ : n = 0 ∧ code = cf := by
    rcases hr with ⟨_, h2, h3⟩ | ⟨h1, _⟩ | ⟨h1, _⟩
    ·exact ⟨h2, h3⟩
    ·exact absurd h1 h0
    ·exact absurd h1 h0
   clear hf hs hr h0 hkk
   go_enter Tryz.func13, Tryz.ntmps13
   go_wp2_with fail
   clear t0 t1 t2
   generalize (w.alloc (.cells #[.slice a0 d.nb c0, .slice a1 d.nc c1, .slice a2 d.ns c2] 29)) = v0 at *
   refine (FA.out _ (HV.out.below A1.out)).mono ?_
   rintro e v1 ⟨rfl, hb⟩
   replace A1 : Hid (Below w.heap.size w v1) := A1.out.trans (hb.mono A1.out.size)
   clear hb BX FA
   go_wp2
   go_ret2
   exact ⟨⟨_, _, 0, rfl, .inl rfl⟩, A1.out.alloc A1.out.size _⟩
 ·obtain ⟨rfl, rfl⟩ : n = 0 ∧ code = 2 := by
   have h2 : cf = 2 := by
    rcases hf with ⟨_, h⟩ | ⟨h1, h2, _⟩ | ⟨h1, h2, _⟩ | ⟨h1, h2, _⟩
    ·exact h
    ·exact absurd ⟨h1, h2⟩ hkk
    ·exact absurd ⟨by omega, h2⟩ hkk
    ·exact absurd ⟨by omega, h2⟩ hkk
   subst h2
   rcases hr with ⟨_, h2, h3⟩ | ⟨h1, _⟩ | ⟨h1, _⟩
   ·exact ⟨h2, h3⟩
   ·cases h1
   ·cases h1
  clear hr hf hs t0 t1 t2 BX
  by_cases hk : k.size ≤ 65536
  ·have x1 : ¬ (65536 : Int) < (k.size : Int) := by omega
   have x2 : (65536 : Int) < (s.size : Int) := by omega
   clear hk hkk
   go_enter Tryz.func13, Tryz.ntmps13
   go_wp2
   go_ret2
   exact ⟨⟨_, _, 0, rfl, .inl rfl⟩, A1.out.alloc A1.out.size _⟩
  ·have x1 : (65536 : Int) < (k.size : Int) := by omega
   clear hk hkk
   go_enter Tryz.func13, Tryz.ntmps13
   go_wp2
   go_ret2
   exact ⟨⟨_, _, 0, rfl, .inl rfl⟩, A1.out.alloc A1.out.size _⟩
end Go.Proofs.YtboekhegbachpaaGreatDoor
