/-
  Texts of the proof, joined: OpenS.
-/
import Derived.Test.YtboekhegbachpaaGreatDoorS31
import Derived.Test.YtboekhegbachpaaGreatDoorS36
import Derived.Test.YtboekhegbachpaaGreatDoorTkH
namespace Go.Proofs.YtboekhegbachpaaGreatDoor
open Go.ChangeShapes Go.WideShapes Go.ChangeAt Go.RowKit
theorem okT_iff (k s : ByteArray) (m : Nat) (fx : Nat → Nat) (n : Nat) (f : Nat → Nat) (hf : ∀ i, f i < 256) : okT k s m fx n f = true ↔ tagT k s m fx n f = kstr (fun i => f (n + i)) 0 16 := by
 have hs := tagT_size k s m fx n f
 unfold okT
 generalize tagT k s m fx n f = TT at *
 have e1 : (((difF (strB TT) (fun i => f (n + i)) 0 16 : Nat) : Int) == 0) = true ↔ difF (strB TT) (fun i => f (n + i)) 0 16 = 0 := by rw [beq_iff_eq]; omega
 rw [e1, difF_zero]
 constructor
 ·intro h
  have := kstr_self TT
  rw [hs] at this
  rw [← this]
  exact kstr_congr (fun i hi => by rw [Nat.zero_add]; exact h.2 i hi)
 ·intro h
  refine ⟨rfl, fun i hi => ?_⟩
  rw [h]
  exact (strB_kstr (fun i => f (n + i)) 0 16 i (hf _) hi).trans (by show f (n + (0 + i)) = f (n + i); rw [Nat.zero_add])
def RetOpenS (w w' : World) (e : Ending) (n : Nat) (F : Nat → Nat) (r : Bool) : Prop := if r then RetB2 w w' e n F (.bool true) else ∃ a c, e = .returned (.tuple #[.slice a 0 c, .bool false])
theorem RetOpenS.no {w w' : World} {e : Ending} {n : Nat} {F : Nat → Nat} (h : ∃ a c, e = .returned (.tuple #[.slice a 0 c, .bool false])) : RetOpenS w w' e n F false := by unfold RetOpenS; rw [if_neg (by decide)]; exact h
theorem RetOpenS.yes {w w' : World} {e : Ending} {n : Nat} {F : Nat → Nat} (h : RetB2 w w' e n F (.bool true)) : RetOpenS w w' e n F true := by unfold RetOpenS; rw [if_pos rfl]; exact h
set_option maxRecDepth 100000 in
set_option maxHeartbeats 4000000 in
theorem l04Open_any (k s : ByteArray) (xb xo m xc b n c : Nat) (fx f : Nat → Nat) (hk : k.size = 32) (hs : s.size = 12) (hm : m ≤ 65536) (hn : n + 16 ≤ 65536) (hcap : n + 16 ≤ c) (hfx : ∀ i, fx i < 256) (hf : ∀ i, f i < 256) (w : World) (hx : Code8 w (some ⟨xb, xo, none⟩) m fx) (hc : Code8 w (some ⟨b, 0, none⟩) (n + 16) f) :
  Calls Tryz.prog 61 #[.string k, .string s, .slice (some ⟨xb, xo, none⟩) m xc, .slice (some ⟨b, 0, none⟩) (n + 16) c] w fun e w' => RetOpenS w w' e n (streamF k s f) (okT k s m fx n f) ∧ Below w.heap.size w w' := by
 have KE : Hid (∀ w : World, Calls Tryz.prog 72 #[.string k] w fun e w' => e = .returned (.tuple #[.string (encS k), .string (tagS k)]) ∧ Below w.heap.size w w') := fun w => l04Keys_any k hk w
 have CX : Hid (∀ w : World, Code8 w (some ⟨b, 0, none⟩) n f → Calls Tryz.prog 74 #[.string (encS k), .string s, .slice (some ⟨b, 0, none⟩) n c] w fun e w' => RetC w w' e n (streamF k s f) ∧ Below w.heap.size w w') := fun w h => l02CtrC_any (encS k) s 8 b 0 n c f (.inr rfl) (by rw [encS_size]) hs (by omega) hf w h
 have TG : Hid (∀ (w : World), Code8 w (some ⟨xb, xo, none⟩) m fx → Code8 w (some ⟨b, 0, none⟩) n f → Calls Tryz.prog 73 #[.string (tagS k), .string s, .slice (some ⟨xb, xo, none⟩) m xc, .slice (some ⟨b, 0, none⟩) n c] w fun e w' => e = .returned (.string (tagT k s m fx n f)) ∧ Below w.heap.size w w') := fun w h1 h2 => l04Tag_any k s xb xo m xc b 0 n c fx f hs hm (by omega) hfx hf w h1 h2
 have OI : Hid (okT k s m fx n f = true ↔ tagT k s m fx n f = kstr (fun i => f (n + i)) 0 16) := okT_iff k s m fx n f hf
 generalize okT k s m fx n f = OKB at *
 generalize tagT k s m fx n f = TT at *
 generalize streamF k s f = F at *
 generalize encS k = E at *
 generalize tagS k = TK at *
 have HX : Hid (Code8 w (some ⟨xb, xo, none⟩) m fx) := hx
 have HC : Hid (Code8 w (some ⟨b, 0, none⟩) n f) := fun i hi => hc i (by omega)
 have HE : Hid (Code8 w (some ⟨b, n, none⟩) 16 (fun i => f (n + i))) := code8_of (fun i hi => by
  obtain ⟨b', o', e, hcc⟩ := hc (n + i) (by omega)
  cases e
  rw [Nat.zero_add] at hcc
  exact hcc)
 have x2 : ((n + 16 : Nat) : Int) - 16 = (n : Int) := by omega
 have x1 : ¬ (n : Int) < 0 := by omega
 have x3 : (n : Int) ≤ (c : Int) := by omega
 have x4 : (n : Int) ≤ ((n + 16 : Nat) : Int) := by omega
 have x5 : n + 16 - n = 16 := by omega
 clear hx hc hfx hf hk hs
 obtain ⟨L, hL⟩ : ∃ L, L = n + 16 := ⟨_, rfl⟩
 rw [← hL] at x2 x4 x5 ⊢
 have x6 : (L : Int) ≤ (c : Int) := by omega
 have xc0 : ¬ c - n = 0 := by omega
 clear hL
 generalize hTB : kstr (fun i => f (n + i)) 0 16 = TB at *
 have HTB : Hid (kstr (fun i => f (n + i)) 0 16 = TB) := hTB
 clear hTB
 go_enter Tryz.func61, Tryz.ntmps61
 go_upto_region 5 with (go_at_call 72; refine (KE.out _).mono ?_; rintro e w1 ⟨rfl, hb1⟩)
 have B2 : Hid (Below w.heap.size w w1.drew) := (Below.trans (Below.refl _ _) hb1).drew
 have H : Code8 w1.drew (some ⟨b, n, none⟩) 16 (fun i => f (n + i)) := HE.out.below B2.out
 clear hb1 KE
 refine wp_region_noPanic ?_
 refine wp_region_held_drew (S := fun w' => Code8 w' (some ⟨b, n, none⟩) 16 (fun i => f (n + i))) (by kernel_rfl) H (fun _ => ?_)
 refine tkH (i := 0) (v := .string TK) rfl (by kernel_rfl) (by rfl) ?_ H ?_
 ·intro w' hSw; clear hSw; go_simp
 change wpAnyH _ _ _ _ _ _ _ { tmps := #[_,_,_,_,_,_,_,_,_,_,_,_,_,_,_,_,_,_,_,_,_,_,_,_,_,_,_,_,_,_,_,_,_,_,_,_,_,_,_,_,_,_,_], defers := _ } _
 refine tkH (i := 1) (v := .string s) rfl (by kernel_rfl) (by rfl) ?_ H ?_
 ·intro w' hSw; clear hSw; go_simp
 change wpAnyH _ _ _ _ _ _ _ { tmps := #[_,_,_,_,_,_,_,_,_,_,_,_,_,_,_,_,_,_,_,_,_,_,_,_,_,_,_,_,_,_,_,_,_,_,_,_,_,_,_,_,_,_,_], defers := _ } _
 refine tkH (i := 2) (v := .slice (some ⟨xb, xo, none⟩) m xc) rfl (by kernel_rfl) (by rfl) ?_ H ?_
 ·intro w' hSw; clear hSw; go_simp
 change wpAnyH _ _ _ _ _ _ _ { tmps := #[_,_,_,_,_,_,_,_,_,_,_,_,_,_,_,_,_,_,_,_,_,_,_,_,_,_,_,_,_,_,_,_,_,_,_,_,_,_,_,_,_,_,_], defers := _ } _
 refine tkH (i := 3) (v := .slice (some ⟨b, 0, none⟩) L c) rfl (by kernel_rfl) (by rfl) ?_ H ?_
 ·intro w' hSw; clear hSw; go_simp
 change wpAnyH _ _ _ _ _ _ _ { tmps := #[_,_,_,_,_,_,_,_,_,_,_,_,_,_,_,_,_,_,_,_,_,_,_,_,_,_,_,_,_,_,_,_,_,_,_,_,_,_,_,_,_,_,_], defers := _ } _
 refine tkH (i := 4) (v := .int .i64 (n : Int)) rfl (by kernel_rfl) (by rfl) ?_ H ?_
 ·intro w' hSw; clear hSw; go_simp
 change wpAnyH _ _ _ _ _ _ _ { tmps := #[_,_,_,_,_,_,_,_,_,_,_,_,_,_,_,_,_,_,_,_,_,_,_,_,_,_,_,_,_,_,_,_,_,_,_,_,_,_,_,_,_,_,_], defers := _ } _
 refine tkH (i := 5) (v := .slice (some ⟨b, 0, none⟩) n c) rfl (by kernel_rfl) (by rfl) ?_ H ?_
 ·intro w' hSw; clear hSw; go_simp
 change wpAnyH _ _ _ _ _ _ _ { tmps := #[_,_,_,_,_,_,_,_,_,_,_,_,_,_,_,_,_,_,_,_,_,_,_,_,_,_,_,_,_,_,_,_,_,_,_,_,_,_,_,_,_,_,_], defers := _ } _
 refine tkH (i := 7) (v := .slice (some ⟨b, 0, none⟩) L c) rfl (by kernel_rfl) (by rfl) ?_ H ?_
 ·intro w' hSw; clear hSw; go_simp
 change wpAnyH _ _ _ _ _ _ _ { tmps := #[_,_,_,_,_,_,_,_,_,_,_,_,_,_,_,_,_,_,_,_,_,_,_,_,_,_,_,_,_,_,_,_,_,_,_,_,_,_,_,_,_,_,_], defers := _ } _
 refine tkH (i := 8) (v := .int .i64 (n : Int)) rfl (by kernel_rfl) (by rfl) ?_ H ?_
 ·intro w' hSw; clear hSw; go_simp
 change wpAnyH _ _ _ _ _ _ _ { tmps := #[_,_,_,_,_,_,_,_,_,_,_,_,_,_,_,_,_,_,_,_,_,_,_,_,_,_,_,_,_,_,_,_,_,_,_,_,_,_,_,_,_,_,_], defers := _ } _
 refine tkH (i := 9) (v := .slice (some ⟨b, n, none⟩) 16 (c - n)) rfl (by kernel_rfl) (by rfl) ?_ H ?_
 ·intro w' hSw; clear hSw; go_simp; intro h; omega
 change wpAnyH _ _ _ _ _ _ _ { tmps := #[_,_,_,_,_,_,_,_,_,_,_,_,_,_,_,_,_,_,_,_,_,_,_,_,_,_,_,_,_,_,_,_,_,_,_,_,_,_,_,_,_,_,_], defers := _ } _
 refine tkH (i := 10) (v := .string TB) rfl (by kernel_rfl) (by rfl) ?_ H ?_
 ·intro w' hSw; have := kstr_of_code (c := c - n) hSw; rw [HTB.out] at this; clear hSw; go_simp
 change wpAnyH _ _ _ _ _ _ _ { tmps := #[_,_,_,_,_,_,_,_,_,_,_,_,_,_,_,_,_,_,_,_,_,_,_,_,_,_,_,_,_,_,_,_,_,_,_,_,_,_,_,_,_,_,_], defers := _ } _
 refine wpAnyH_ready (rs := [6]) (by kernel_rfl) (by simp) ?_
 refine AllReadyH.cons rfl (fun KK hK => ?_) AllReadyH.nil
 go_simp
 refine (TG.out w1.drew (HX.out.below B2.out) (HC.out.below B2.out)).mono ?_
 rintro e w3 ⟨rfl, hb3⟩
 have B3 : Hid (Below w.heap.size w w3) := B2.out.trans (hb3.mono B2.out.size)
 replace H : Code8 w3 (some ⟨b, n, none⟩) 16 (fun i => f (n + i)) := H.below hb3
 clear hb3 B2 TG HX
 refine hK.out _ _ H (fun _ => ?_)
 clear hK KK
 change wpAnyH _ _ _ _ _ _ _ { tmps := #[_,_,_,_,_,_,_,_,_,_,_,_,_,_,_,_,_,_,_,_,_,_,_,_,_,_,_,_,_,_,_,_,_,_,_,_,_,_,_,_,_,_,_], defers := _ } _
 by_cases hq : TT = TB
 ·have hb : OKB = true := OI.out.2 hq
  subst hb hq
  have H' := H
  refine tkH (i := 11) (v := .bool false) rfl (by kernel_rfl) (by rfl) ?_ H ?_
  ·intro w' hSw; clear hSw; go_simp
  change wpAnyH _ _ _ _ _ _ _ { tmps := #[_,_,_,_,_,_,_,_,_,_,_,_,_,_,_,_,_,_,_,_,_,_,_,_,_,_,_,_,_,_,_,_,_,_,_,_,_,_,_,_,_,_,_], defers := _ } _
  clear H H' OI
  refine wpAnyH_done (by kernel_rfl) ?_ _
  refine NoPanic.normal ?_
  go_wp2_with fail
  refine (CX.out w3 (HC.out.below B3.out)).mono ?_
  rintro e w4 ⟨⟨g, cg, ⟨hg, hcg⟩, rfl, ho⟩, hb4⟩
  have B4 : Hid (Below w.heap.size w w4) := B3.out.trans (hb4.mono B3.out.size)
  have O4 : Hid (Own8 w4 g n F) := ho.own
  have hgw : w.heap.size ≤ g := Nat.le_trans B3.out.size hg
  clear ho hb4 hg B3 HC CX
  go_wp2
  go_ret2
  exact ⟨RetOpenS.yes ⟨g, cg, ⟨hgw, hcg⟩, rfl, O4.out⟩, B4.out⟩
 ·have hb : OKB = false := by
   cases OKB with
   | false => rfl
   | true => exact absurd (OI.out.1 rfl) hq
  subst hb
  have hne : ¬ TT.toList = TB.toList := fun g => hq (by rw [ByteArray.toList_eq, ByteArray.toList_eq] at g; exact ba_ext g)
  refine tkH (i := 11) (v := .bool true) rfl (by kernel_rfl) (by rfl) ?_ H ?_
  ·intro w' hSw; clear hSw; go_simp
  change wpAnyH _ _ _ _ _ _ _ { tmps := #[_,_,_,_,_,_,_,_,_,_,_,_,_,_,_,_,_,_,_,_,_,_,_,_,_,_,_,_,_,_,_,_,_,_,_,_,_,_,_,_,_,_,_], defers := _ } _
  clear H OI
  refine wpAnyH_done (by kernel_rfl) ?_ _
  refine NoPanic.normal ?_
  have B4 : Hid (Below w.heap.size w (w3.alloc (.cells #[] 5))) := B3.out.alloc B3.out.size _
  go_wp2
  go_ret2
  exact ⟨RetOpenS.no ⟨_, _, rfl⟩, B4.out⟩
end Go.Proofs.YtboekhegbachpaaGreatDoor
