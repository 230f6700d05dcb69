/-
  Texts of the proof, joined: OpenB, OpenAt.
-/
import Derived.Test.YtboekhegbachpaaGreatDoorS29
import Derived.Test.YtboekhegbachpaaGreatDoorS14
import Derived.Test.YtboekhegbachpaaGreatDoorTkH
namespace Go.Proofs.YtboekhegbachpaaGreatDoor
open Go.ChangeShapes Go.WideShapes Go.ChangeAt Go.RowKit
theorem implOpen_form (k s : ByteArray) (a b : Option Addr) (m x n c : Nat) (hn : n < 16) (hf : ∀ w : World, Calls Tryz.prog 76 #[.string k, .string s, .int .i64 (m : Int), .int .i64 (n : Int), .int .i64 65536] w fun e w' => e = .returned (.int .i64 0) ∧ w = w') (w : World) :
  Calls Tryz.prog 69 #[.string k, .string s, .slice a m x, .slice b n c] w fun e w' => e = .returned (.tuple #[.slice none 0 0, .int .i64 3]) ∧ w = w' := by
 have FA : Hid (∀ w : World, Calls Tryz.prog 76 #[.string k, .string s, .int .i64 (m : Int), .int .i64 (n : Int), .int .i64 65536] w fun e w' => e = .returned (.int .i64 0) ∧ w = w') := hf
 have e1 : (n : Int) < 16 := by omega
 clear hf hn
 go_enter_defers Tryz.func69, Tryz.ntmps69
 go_wp2_with fail
 refine (FA.out _).mono ?_
 rintro e w' ⟨rfl, rfl⟩
 go_wp2
 exact ⟨_, results_tmp2 rfl _ _ _, rfl, rfl⟩
def okT (k s : ByteArray) (m : Nat) (fx : Nat → Nat) (n : Nat) (f : Nat → Nat) : Bool := (((difF (strB (tagT k s m fx n f)) (fun i => f (n + i)) 0 16 : Nat) : Int) == 0)
def RetOpen (w w' : World) (e : Ending) (n : Nat) (F : Nat → Nat) (r : Bool) : Prop := if r then RetB2 w w' e n F (.int .i64 0) else e = .returned (.tuple #[.slice none 0 0, .int .i64 10])
theorem RetOpen.no {w w' : World} {e : Ending} {n : Nat} {F : Nat → Nat} (h : e = .returned (.tuple #[.slice none 0 0, .int .i64 10])) : RetOpen w w' e n F false := by unfold RetOpen; rw [if_neg (by decide)]; exact h
theorem RetOpen.yes {w w' : World} {e : Ending} {n : Nat} {F : Nat → Nat} (h : RetB2 w w' e n F (.int .i64 0)) : RetOpen w w' e n F true := by unfold RetOpen; rw [if_pos rfl]; exact h
end Go.Proofs.YtboekhegbachpaaGreatDoor
namespace Go.Proofs.YtboekhegbachpaaGreatDoor
open Go.ChangeShapes Go.WideShapes Go.ChangeAt Go.RowKit
set_option maxRecDepth 100000 in
set_option maxHeartbeats 4000000 in
theorem implOpen_at (k s : ByteArray) (xb xo m xc b o n c : Nat) (fx f : Nat → Nat) (hk : k.size = 32) (hs : s.size = 12) (hm : m ≤ 65536) (hn : n + 16 ≤ 65536) (hcap : n + 16 ≤ c) (hfx : ∀ i, fx i < 256) (hf : ∀ i, f i < 256) (w : World) (hx : Code8 w (some ⟨xb, xo, none⟩) m fx) (hc : Code8 w (some ⟨b, o, none⟩) (n + 16) f) (ht : Tabs w) :
  Calls Tryz.prog 69 #[.string k, .string s, .slice (some ⟨xb, xo, none⟩) m xc, .slice (some ⟨b, o, none⟩) (n + 16) c] w fun e w' => RetOpen w w' e n (streamF k s f) (okT k s m fx n f) ∧ Below w.heap.size w w' := by
 obtain ⟨Z, z0, hZ, -⟩ := Tryz.zeroSl
 have FA : Hid (∀ w : World, Calls Tryz.prog 76 #[.string k, .string s, .int .i64 (m : Int), .int .i64 ((n + 16 : Nat) : Int), .int .i64 65536] w fun e w' => e = .returned (.int .i64 0) ∧ w = w') := sfault_ok k s m (n + 16) 65536 hk hs hm (by omega)
 have KO : Hid (∀ w : World, Tabs w → Calls Tryz.prog 77 #[.string k] w fun e w' => e = .returned (.agg (bA 64 (pairF k))) ∧ Below w.heap.size w w') := fun w ht => keysOf_any k hk w ht
 have ST : Hid (∀ (q : Nat) (w : World), SealAt w q (pairF k) s (.slice (some ⟨xb, xo, none⟩) m xc) → Code8 w (some ⟨b, o, none⟩) n f → Calls Tryz.prog 81 #[.pointer (some ⟨q, 0, none⟩), .slice (some ⟨b, o, none⟩) n c] w fun e w' => RetC w w' e n (streamF k s f) ∧ Below w.heap.size w w') := fun q w h hc => streamed_any k s _ q b o n c f hs (by omega) hf w h hc
 have TG : Hid (∀ (q : Nat) (w : World), SealAt w q (pairF k) s (.slice (some ⟨xb, xo, none⟩) m xc) → Code8 w (some ⟨xb, xo, none⟩) m fx → Code8 w (some ⟨b, o, none⟩) n f → Tabs w → Calls Tryz.prog 80 #[.pointer (some ⟨q, 0, none⟩), .slice (some ⟨b, o, none⟩) n c] w fun e w' => RetM w.heap.size w' e 16 (strB (tagT k s m fx n f)) ∧ Below w.heap.size w w') := fun q w h hx hc ht => tag_any k s q xb xo m xc b o n c fx f hs hm (by omega) hfx hf w h hx hc ht
 have EB : Hid (∀ (tg tc d : Nat) (w : World), Code8 w (some ⟨tg, 0, none⟩) 16 (strB (tagT k s m fx n f)) → Code8 w (some ⟨b, o + n, none⟩) 16 (fun i => f (n + i)) → Calls Tryz.prog 79 #[.slice (some ⟨tg, 0, none⟩) 16 tc, .slice (some ⟨b, o + n, none⟩) 16 d] w fun e w' => e = .returned (.tuple #[.bool (okT k s m fx n f), .int .i64 0]) ∧ Below w.heap.size w w') := fun tg tc d w h1 h2 => eqI_same _ _ 16 tc d _ _ (strB_lt _) (fun i => hf _) (by omega) w h1 h2
 have BU : Hid (Tryz.prog.built 120 [(0, .agg (bA 64 (pairF k))), (1, .string s), (2, .slice (some ⟨xb, xo, none⟩) m xc)] = some (slA (pairF k) s (.slice (some ⟨xb, xo, none⟩) m xc))) := built_sealer (pairF k) s (some ⟨xb, xo, none⟩) m xc
 have SS : Hid (∀ w : World, SealAt ((w.alloc (.cells Z 120)).setCells w.heap.size 0 (slA (pairF k) s (.slice (some ⟨xb, xo, none⟩) m xc)).toList) w.heap.size (pairF k) s (.slice (some ⟨xb, xo, none⟩) m xc)) := fun w => sealAt_stored w Z hZ _ _ _
 have SO : Hid ((slA (pairF k) s (.slice (some ⟨xb, xo, none⟩) m xc)).all (·.oneCell') = true) := slA_one _ _ _ _ _
 have SN : Hid ((slA (pairF k) s (.slice (some ⟨xb, xo, none⟩) m xc)).size = 66) := slA_size _ _ _
 have TH : Hid (∀ w : World, (w.alloc (.cells Z 120)).there w.heap.size 0 66) := fun w => there_big w Z _ hZ
 generalize slA (pairF k) s (.slice (some ⟨xb, xo, none⟩) m xc) = SA at *
 generalize bA 64 (pairF k) = AG at *
 generalize pairF k = G at *
 generalize okT k s m fx n f = OKB at *
 generalize tagT k s m fx n f = TT at *
 generalize streamF k s f = F at *
 have HX : Hid (Code8 w (some ⟨xb, xo, none⟩) m fx) := hx
 have HC : Hid (Code8 w (some ⟨b, o, none⟩) n f) := fun i hi => hc i (by omega)
 have HE : Hid (Code8 w (some ⟨b, o + n, none⟩) 16 (fun i => f (n + i))) := code8_of (fun i hi => by
  obtain ⟨b', o', e, hcc⟩ := hc (n + i) (by omega)
  cases e
  rw [← Nat.add_assoc] at hcc
  exact hcc)
 have HT : Hid (Tabs w) := ht
 have x1 : ¬ ((n + 16 : Nat) : Int) < 16 := by omega
 have x2 : ((n + 16 : Nat) : Int) - 16 = (n : Int) := by omega
 have x3 : (n : Int) ≤ (c : Int) := by omega
 have x4 : (n : Int) ≤ ((n + 16 : Nat) : Int) := by omega
 have x5 : n + 16 - n = 16 := by omega
 clear hx hc ht hfx hf hk hs hZ
 obtain ⟨L, hL⟩ : ∃ L, L = n + 16 := ⟨_, rfl⟩
 rw [← hL] at FA x1 x2 x4 x5 ⊢
 have x6 : (L : Int) ≤ (c : Int) := by omega
 have HL : Hid (L = n + 16) := hL
 clear hL
 go_enter_defers Tryz.func69, Tryz.ntmps69
 go_upto_region 6 with (go_at_call 76; refine (FA.out _).mono ?_; rintro e w' ⟨rfl, rfl⟩)
 refine wp_region_lit ?_
 refine wpList_plain rfl fun K1 hK1 => ?_
 go_simp
 refine hK1 _ _ ?_
 clear hK1 K1
 refine wpList_plain rfl fun K1 hK1 => ?_
 go_simp
 refine (KO.out _ HT.out).mono ?_
 rintro e w1 ⟨rfl, hb1⟩
 refine hK1 _ _ ?_
 clear hK1 K1
 refine wpList_plain rfl fun K1 hK1 => ?_
 go_simp
 refine hK1 _ _ ?_
 clear hK1 K1
 refine wpList_plain rfl fun K1 hK1 => ?_
 go_simp
 refine hK1 _ _ ?_
 clear hK1 K1
 refine wpList_buildS rfl 120 #[(0, .tmp 29), (1, .tmp 30), (2, .tmp 31)] rfl [(0, .agg AG), (1, .string s), (2, .slice (some ⟨xb, xo, none⟩) m xc)] (by simp only [List.map_toArray, List.map_cons, List.map_nil]; rfl) SA BU.out ?_
 refine wpList_plain rfl fun K1 hK1 => ?_
 go_simp
 refine hK1 _ _ ?_
 clear hK1 K1
 have B1 : Hid (Below w.heap.size w w1) := hb1
 have S2 : Hid (SealAt ((w1.alloc (.cells Z 120)).setCells w1.heap.size 0 SA.toList) w1.heap.size G s (.slice (some ⟨xb, xo, none⟩) m xc)) := SS.out w1
 have B2 : Hid (Below w.heap.size w ((w1.alloc (.cells Z 120)).setCells w1.heap.size 0 SA.toList)) := below_setCells B1.out.size _ _ _ (B1.out.alloc B1.out.size _)
 have hq : w.heap.size ≤ w1.heap.size := B1.out.size
 clear hb1 KO FA B1
 refine wpList_store_mid rfl 120 (.tmp 11) (.tmp 32) rfl w1.heap.size 0 SA rfl rfl (by rw [SN.out]; exact TH.out w1) (by rw [SN.out]; exact Tryz.sizeSl) SO.out ?_
 generalize (w1.alloc (.cells Z 120)).setCells w1.heap.size 0 SA.toList = w2 at *
 generalize w1.heap.size = q at *
 clear BU SS SO SN TH z0
 go_upto_region 9 with fail
 have H := S2.out.drew
 have B3 : Hid (Below w.heap.size w w2.drew) := B2.out.drew
 have xc0 : ¬ c - n = 0 := by have := HL.out; omega
 refine wp_region_noPanic ?_
 refine wp_region_held_drew (S := fun w' => SealAt w' q G s (.slice (some ⟨xb, xo, none⟩) m xc)) (by kernel_rfl) H (fun _ => ?_)
 clear S2 B2
 refine tkH (i := 0) (v := .slice (some ⟨b, o, none⟩) L c) rfl (by kernel_rfl) (by rfl) ?_ H ?_
 ·intro w' hSw; go_simp
 change wpAnyH _ _ _ _ _ _ _ { tmps := #[_,_,_,_,_,_,_,_,_,_,_,_,_,_,_,_,_,_,_,_,_,_,_,_,_,_,_,_,_,_,_,_,_,_,_,_,_,_,_,_,_,_,_,_,_,_,_,_,_,_,_,_,_,_], defers := _ } _
 refine tkH (i := 1) (v := .int .i64 (n : Int)) rfl (by kernel_rfl) (by rfl) ?_ H ?_
 ·intro w' hSw; go_simp
 change wpAnyH _ _ _ _ _ _ _ { tmps := #[_,_,_,_,_,_,_,_,_,_,_,_,_,_,_,_,_,_,_,_,_,_,_,_,_,_,_,_,_,_,_,_,_,_,_,_,_,_,_,_,_,_,_,_,_,_,_,_,_,_,_,_,_,_], defers := _ } _
 refine tkH (i := 2) (v := .slice (some ⟨b, o, none⟩) n c) rfl (by kernel_rfl) (by rfl) ?_ H ?_
 ·intro w' hSw; go_simp
 change wpAnyH _ _ _ _ _ _ _ { tmps := #[_,_,_,_,_,_,_,_,_,_,_,_,_,_,_,_,_,_,_,_,_,_,_,_,_,_,_,_,_,_,_,_,_,_,_,_,_,_,_,_,_,_,_,_,_,_,_,_,_,_,_,_,_,_], defers := _ } _
 refine tkH (i := 4) (v := .slice (some ⟨b, o, none⟩) L c) rfl (by kernel_rfl) (by rfl) ?_ H ?_
 ·intro w' hSw; go_simp
 change wpAnyH _ _ _ _ _ _ _ { tmps := #[_,_,_,_,_,_,_,_,_,_,_,_,_,_,_,_,_,_,_,_,_,_,_,_,_,_,_,_,_,_,_,_,_,_,_,_,_,_,_,_,_,_,_,_,_,_,_,_,_,_,_,_,_,_], defers := _ } _
 refine tkH (i := 5) (v := .int .i64 (n : Int)) rfl (by kernel_rfl) (by rfl) ?_ H ?_
 ·intro w' hSw; go_simp
 change wpAnyH _ _ _ _ _ _ _ { tmps := #[_,_,_,_,_,_,_,_,_,_,_,_,_,_,_,_,_,_,_,_,_,_,_,_,_,_,_,_,_,_,_,_,_,_,_,_,_,_,_,_,_,_,_,_,_,_,_,_,_,_,_,_,_,_], defers := _ } _
 refine tkH (i := 6) (v := .slice (some ⟨b, o + n, none⟩) 16 (c - n)) rfl (by kernel_rfl) (by rfl) ?_ H ?_
 ·intro w' hSw; go_simp; intro h; omega
 change wpAnyH _ _ _ _ _ _ _ { tmps := #[_,_,_,_,_,_,_,_,_,_,_,_,_,_,_,_,_,_,_,_,_,_,_,_,_,_,_,_,_,_,_,_,_,_,_,_,_,_,_,_,_,_,_,_,_,_,_,_,_,_,_,_,_,_], defers := _ } _
 refine wpAnyH_ready (rs := [3]) (by kernel_rfl) (by simp) ?_
 refine AllReadyH.cons rfl (fun KK hK => ?_) AllReadyH.nil
 go_simp
 refine (TG.out q w2.drew H (HX.out.below B3.out) (HC.out.below B3.out) (HT.out.below B3.out)).mono ?_
 rintro e w4 ⟨⟨tg, tc, rfl, htg, hr4⟩, hb4⟩
 have B4 : Hid (Below w.heap.size w w4) := B3.out.trans (hb4.mono B3.out.size)
 have R4 : Hid (Code8 w4 (some ⟨tg, 0, none⟩) 16 (strB TT)) := hr4.code
 replace H : SealAt w4 q G s (.slice (some ⟨xb, xo, none⟩) m xc) := H.below hb4
 clear hr4 hb4 htg B3 TG HX HT
 refine hK.out _ _ H (fun _ => ?_)
 clear hK KK
 change wpAnyH _ _ _ _ _ _ _ { tmps := #[_,_,_,_,_,_,_,_,_,_,_,_,_,_,_,_,_,_,_,_,_,_,_,_,_,_,_,_,_,_,_,_,_,_,_,_,_,_,_,_,_,_,_,_,_,_,_,_,_,_,_,_,_,_], defers := _ } _
 refine wpAnyH_ready (rs := [7]) (by kernel_rfl) (by simp) ?_
 refine AllReadyH.cons rfl (fun KK hK => ?_) AllReadyH.nil
 go_simp
 refine (EB.out tg tc (c - n) w4 R4.out (HE.out.below B4.out)).mono ?_
 rintro e w5 ⟨rfl, hb5⟩
 have B5 : Hid (Below w.heap.size w w5) := B4.out.trans (hb5.mono B4.out.size)
 replace H : SealAt w5 q G s (.slice (some ⟨xb, xo, none⟩) m xc) := H.below hb5
 clear hb5 B4 R4 EB HE
 refine hK.out _ _ H (fun _ => ?_)
 clear hK KK
 change wpAnyH _ _ _ _ _ _ _ { tmps := #[_,_,_,_,_,_,_,_,_,_,_,_,_,_,_,_,_,_,_,_,_,_,_,_,_,_,_,_,_,_,_,_,_,_,_,_,_,_,_,_,_,_,_,_,_,_,_,_,_,_,_,_,_,_], defers := _ } _
 refine tkH (i := 8) (v := .tuple #[.bool OKB, .int .i64 0]) rfl (by kernel_rfl) (by rfl) ?_ H ?_
 ·intro w' hSw; go_simp
 change wpAnyH _ _ _ _ _ _ _ { tmps := #[_,_,_,_,_,_,_,_,_,_,_,_,_,_,_,_,_,_,_,_,_,_,_,_,_,_,_,_,_,_,_,_,_,_,_,_,_,_,_,_,_,_,_,_,_,_,_,_,_,_,_,_,_,_], defers := _ } _
 refine tkH (i := 9) (v := .bool OKB) rfl (by kernel_rfl) (by rfl) ?_ H ?_
 ·intro w' hSw; go_simp
 change wpAnyH _ _ _ _ _ _ _ { tmps := #[_,_,_,_,_,_,_,_,_,_,_,_,_,_,_,_,_,_,_,_,_,_,_,_,_,_,_,_,_,_,_,_,_,_,_,_,_,_,_,_,_,_,_,_,_,_,_,_,_,_,_,_,_,_], defers := _ } _
 refine tkH (i := 10) (v := .int .i64 0) rfl (by kernel_rfl) (by rfl) ?_ H ?_
 ·intro w' hSw; go_simp
 change wpAnyH _ _ _ _ _ _ _ { tmps := #[_,_,_,_,_,_,_,_,_,_,_,_,_,_,_,_,_,_,_,_,_,_,_,_,_,_,_,_,_,_,_,_,_,_,_,_,_,_,_,_,_,_,_,_,_,_,_,_,_,_,_,_,_,_], defers := _ } _
 refine tkH (i := 11) (v := .bool OKB) rfl (by kernel_rfl) (by rfl) ?_ H ?_
 ·intro w' hSw; go_simp
 change wpAnyH _ _ _ _ _ _ _ { tmps := #[_,_,_,_,_,_,_,_,_,_,_,_,_,_,_,_,_,_,_,_,_,_,_,_,_,_,_,_,_,_,_,_,_,_,_,_,_,_,_,_,_,_,_,_,_,_,_,_,_,_,_,_,_,_], defers := _ } _
 refine tkH (i := 12) (v := .int .i64 0) rfl (by kernel_rfl) (by rfl) ?_ H ?_
 ·intro w' hSw; go_simp
 change wpAnyH _ _ _ _ _ _ _ { tmps := #[_,_,_,_,_,_,_,_,_,_,_,_,_,_,_,_,_,_,_,_,_,_,_,_,_,_,_,_,_,_,_,_,_,_,_,_,_,_,_,_,_,_,_,_,_,_,_,_,_,_,_,_,_,_], defers := _ } _
 have H5 : Hid (SealAt w5 q G s (.slice (some ⟨xb, xo, none⟩) m xc)) := H
 have T5 : Hid (w5.there q 0 64) := H.there
 clear H
 refine wpAnyH_done (by kernel_rfl) ?_ _
 refine NoPanic.normal ?_
 cases OKB with
 | false =>
  go_wp2
  refine leaves_cons (f := 78) (args := #[.pointer (some ⟨q, 0, none⟩)]) (by simp) (by simp [go_sem]) ?_
  refine (forget_deferred q .returning _ T5.out).mono ?_
  rintro e u' w6 ⟨rfl, rfl, ho⟩
  exact ⟨_, results_tmp2 rfl _ _ _, RetOpen.no rfl, B5.out.trans (ho.toBelow hq B5.out.size)⟩
 | true =>
  go_wp2_with fail
  refine (ST.out q w5 H5.out (HC.out.below B5.out)).mono ?_
  rintro e w6 ⟨⟨g, cg, ⟨hg, hcg⟩, rfl, ho⟩, hb6⟩
  have S6 : SealAt w6 q G s (.slice (some ⟨xb, xo, none⟩) m xc) := H5.out.below hb6
  have B6 : Hid (Below w.heap.size w w6) := B5.out.trans (hb6.mono B5.out.size)
  have O6 : Hid (Own8 w6 g n F) := ho.own
  have hne : g ≠ q := by have := H5.out.lt; omega
  have hgw : w.heap.size ≤ g := Nat.le_trans B5.out.size hg
  have T6 : Hid (w6.there q 0 64) := S6.there
  clear ho hb6 S6 H5 T5 B5 HC ST hg
  go_wp2
  refine leaves_cons (f := 78) (args := #[.pointer (some ⟨q, 0, none⟩)]) (by simp) (by simp [go_sem]) ?_
  refine (forget_deferred q .returning _ T6.out).mono ?_
  rintro e u' w7 ⟨rfl, rfl, ho⟩
  exact ⟨_, results_tmp2 rfl _ _ _, RetOpen.yes ⟨g, cg, ⟨hgw, hcg⟩, rfl, O6.out.onlyB ho hne⟩, B6.out.trans (ho.toBelow hq B6.out.size)⟩
end Go.Proofs.YtboekhegbachpaaGreatDoor
