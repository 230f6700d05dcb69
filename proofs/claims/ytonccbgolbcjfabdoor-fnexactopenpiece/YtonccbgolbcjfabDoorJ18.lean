/-
  The contract of impl.OpenBytes.
-/
import Derived.Test.YtonccbgolbcjfabDoorJ11
import Derived.Test.YtonccbgolbcjfabDoorEqual
import Derived.Test.YtonccbgolbcjfabDoorJ16
import Derived.Test.YtonccbgolbcjfabDoorJ17
namespace Go.Proofs.YtonccbgolbcjfabDoor
open Go.ChangeShapes Go.WideShapes Go.ChangeAt Go.RowKit
theorem implOpen_no (k s : ByteArray) (a b : Option Addr) (m x n c : Nat) (code : Int) (hc : code ≠ 0) (hf : ∀ w : World, Calls Tryd.prog 22 #[.string k, .string s, .int .i64 (m : Int), .int .i64 (n : Int), .int .i64 65536] w fun e w' => e = .returned (.int .i64 code) ∧ w = w') (w : World) :
    Calls Tryd.prog 17 #[.string k, .string s, .slice a m x, .slice b n c] w fun e w' => e = .returned (.tuple #[.slice none 0 0, .int .i64 code]) ∧ w = w' := by
  have FA : Hid (∀ w : World, Calls Tryd.prog 22 #[.string k, .string s, .int .i64 (m : Int), .int .i64 (n : Int), .int .i64 65536] w fun e w' => e = .returned (.int .i64 code) ∧ w = w') := hf
  have e1 : (code != 0) = true := by rw [bne_iff_ne]; exact hc
  clear hf
  go_enter_defers Tryd.func17, Tryd.ntmps17
  go_wp2_with fail
  refine (FA.out _).mono ?_
  rintro e w' ⟨rfl, rfl⟩
  go_wp2
  exact ⟨_, results_tmp2 rfl _ _ _, rfl, rfl⟩
theorem implOpen_form (k s : ByteArray) (a b : Option Addr) (m x n c : Nat) (hn : n < 16) (hf : ∀ w : World, Calls Tryd.prog 22 #[.string k, .string s, .int .i64 (m : Int), .int .i64 (n : Int), .int .i64 65536] w fun e w' => e = .returned (.int .i64 0) ∧ w = w') (w : World) :
    Calls Tryd.prog 17 #[.string k, .string s, .slice a m x, .slice b n c] w fun e w' => e = .returned (.tuple #[.slice none 0 0, .int .i64 3]) ∧ w = w' := by
  have FA : Hid (∀ w : World, Calls Tryd.prog 22 #[.string k, .string s, .int .i64 (m : Int), .int .i64 (n : Int), .int .i64 65536] w fun e w' => e = .returned (.int .i64 0) ∧ w = w') := hf
  have e1 : (n : Int) < 16 := by omega
  clear hf hn
  go_enter_defers Tryd.func17, Tryd.ntmps17
  go_wp2_with fail
  refine (FA.out _).mono ?_
  rintro e w' ⟨rfl, rfl⟩
  go_wp2
  exact ⟨_, results_tmp2 rfl _ _ _, rfl, rfl⟩
/-- Whether the tag behind n bytes is right. -/
def okT (k s : ByteArray) (m : Nat) (fx : Nat → Nat) (n : Nat) (f : Nat → Nat) : Bool := (((difF (strB (tagT k s m fx n f)) (fun i => f (n + i)) 0 16 : Nat) : Int) == 0)
def RetOpen (w w' : World) (e : Ending) (n : Nat) (F : Nat → Nat) (r : Bool) : Prop := if r then RetB2 w w' e n F (.int .i64 0) else e = .returned (.tuple #[.slice none 0 0, .int .i64 10])
theorem RetOpen.no {w w' : World} {e : Ending} {n : Nat} {F : Nat → Nat} (h : e = .returned (.tuple #[.slice none 0 0, .int .i64 10])) : RetOpen w w' e n F false := by unfold RetOpen; rw [if_neg (by decide)]; exact h
theorem RetOpen.yes {w w' : World} {e : Ending} {n : Nat} {F : Nat → Nat} (h : RetB2 w w' e n F (.int .i64 0)) : RetOpen w w' e n F true := by unfold RetOpen; rw [if_pos rfl]; exact h
set_option maxRecDepth 100000 in
set_option maxHeartbeats 4000000 in
theorem implOpen_yes (k s : ByteArray) (xb xo m xc b n c : Nat) (fx f : Nat → Nat) (hk : k.size = 32) (hs : s.size = 12) (hm : m ≤ 65536) (hn : n + 16 ≤ 65536) (hcap : n + 16 ≤ c) (hfx : ∀ i, fx i < 256) (hf : ∀ i, f i < 256) (w : World) (hx : Code8 w (some ⟨xb, xo, none⟩) m fx) (hc : Code8 w (some ⟨b, 0, none⟩) (n + 16) f) (ht : Tabs w) :
    Calls Tryd.prog 17 #[.string k, .string s, .slice (some ⟨xb, xo, none⟩) m xc, .slice (some ⟨b, 0, none⟩) (n + 16) c] w fun e w' => RetOpen w w' e n (streamF k s f) (okT k s m fx n f) ∧ Below w.heap.size w w' := by
  obtain ⟨Z, z0, hZ, -⟩ := Tryd.zeroSl
  have FA : Hid (∀ w : World, Calls Tryd.prog 22 #[.string k, .string s, .int .i64 (m : Int), .int .i64 ((n + 16 : Nat) : Int), .int .i64 65536] w fun e w' => e = .returned (.int .i64 0) ∧ w = w') := sfault_ok k s m (n + 16) 65536 hk hs hm (by omega)
  have KO : Hid (∀ w : World, Tabs w → Calls Tryd.prog 23 #[.string k] w fun e w' => e = .returned (.agg (bA 64 (pairF k))) ∧ Below w.heap.size w w') := fun w ht => keysOf_any k hk w ht
  have ST : Hid (∀ (q : Nat) (w : World), SealAt w q (pairF k) s (.slice (some ⟨xb, xo, none⟩) m xc) → Code8 w (some ⟨b, 0, none⟩) n f → Calls Tryd.prog 25 #[.pointer (some ⟨q, 0, none⟩), .slice (some ⟨b, 0, none⟩) n c] w fun e w' => RetC w w' e n (streamF k s f) ∧ Below w.heap.size w w') := fun q w h hc => streamed_any k s _ q b 0 n c f hs (by omega) hf w h hc
  have TG : Hid (∀ (q : Nat) (w : World), SealAt w q (pairF k) s (.slice (some ⟨xb, xo, none⟩) m xc) → Code8 w (some ⟨xb, xo, none⟩) m fx → Code8 w (some ⟨b, 0, none⟩) n f → Tabs w → Calls Tryd.prog 26 #[.pointer (some ⟨q, 0, none⟩), .slice (some ⟨b, 0, none⟩) n c] w fun e w' => RetM w.heap.size w' e 16 (strB (tagT k s m fx n f)) ∧ Below w.heap.size w w') := fun q w h hx hc ht => tag_any k s q xb xo m xc b 0 n c fx f hs hm (by omega) hfx hf w h hx hc ht
  have EB : Hid (∀ (tg tc d : Nat) (w : World), Code8 w (some ⟨tg, 0, none⟩) 16 (strB (tagT k s m fx n f)) → Code8 w (some ⟨b, n, none⟩) 16 (fun i => f (n + i)) → Calls Tryd.prog 29 #[.slice (some ⟨tg, 0, none⟩) 16 tc, .slice (some ⟨b, n, none⟩) 16 d] w fun e w' => e = .returned (.tuple #[.bool (okT k s m fx n f), .int .i64 0]) ∧ Below w.heap.size w w') := fun tg tc d w h1 h2 => eqI_same _ _ 16 tc d _ _ (strB_lt _) (fun i => hf _) (by omega) w h1 h2
  have BU : Hid (Tryd.prog.built 45 [(0, .agg (bA 64 (pairF k))), (1, .string s), (2, .slice (some ⟨xb, xo, none⟩) m xc)] = some (slA (pairF k) s (.slice (some ⟨xb, xo, none⟩) m xc))) := built_sealer (pairF k) s (some ⟨xb, xo, none⟩) m xc
  have SS : Hid (∀ w : World, SealAt ((w.alloc (.cells Z 45)).setCells w.heap.size 0 (slA (pairF k) s (.slice (some ⟨xb, xo, none⟩) m xc)).toList) w.heap.size (pairF k) s (.slice (some ⟨xb, xo, none⟩) m xc)) := fun w => sealAt_stored w Z hZ _ _ _
  have SO : Hid ((slA (pairF k) s (.slice (some ⟨xb, xo, none⟩) m xc)).all (·.oneCell') = true) := slA_one _ _ _ _ _
  have SN : Hid ((slA (pairF k) s (.slice (some ⟨xb, xo, none⟩) m xc)).size = 66) := slA_size _ _ _
  have TH : Hid (∀ w : World, (w.alloc (.cells Z 45)).there w.heap.size 0 66) := fun w => there_big w Z _ hZ
  generalize slA (pairF k) s (.slice (some ⟨xb, xo, none⟩) m xc) = SA at *
  generalize bA 64 (pairF k) = AG at *
  generalize pairF k = G at *
  generalize okT k s m fx n f = OKB at *
  generalize tagT k s m fx n f = TT at *
  generalize streamF k s f = F at *
  have HX : Hid (Code8 w (some ⟨xb, xo, none⟩) m fx) := hx
  have HC : Hid (Code8 w (some ⟨b, 0, none⟩) n f) := fun i hi => hc i (by omega)
  have HE : Hid (Code8 w (some ⟨b, n, none⟩) 16 (fun i => f (n + i))) := code8_of (fun i hi => by
    obtain ⟨b', o', e, hcc⟩ := hc (n + i) (by omega)
    cases e
    rw [Nat.zero_add] at hcc
    exact hcc)
  have HT : Hid (Tabs w) := ht
  have x1 : ¬ ((n + 16 : Nat) : Int) < 16 := by omega
  have x2 : ((n + 16 : Nat) : Int) - 16 = (n : Int) := by omega
  have x3 : (n : Int) ≤ (c : Int) := by omega
  have x4 : (n : Int) ≤ ((n + 16 : Nat) : Int) := by omega
  have x5 : n + 16 - n = 16 := by omega
  clear hx hc ht hfx hf hk hs hZ
  obtain ⟨L, hL⟩ : ∃ L, L = n + 16 := ⟨_, rfl⟩
  rw [← hL] at FA x1 x2 x4 x5 ⊢
  have x6 : (L : Int) ≤ (c : Int) := by omega
  have HL : Hid (L = n + 16) := hL
  clear hL
  go_enter_defers Tryd.func17, Tryd.ntmps17
  go_upto_region 6 with (go_at_call 22; refine (FA.out _).mono ?_; rintro e w' ⟨rfl, rfl⟩)
  refine wp_region_lit ?_
  refine wpList_plain rfl fun K1 hK1 => ?_
  go_simp
  refine hK1 _ _ ?_
  clear hK1 K1
  refine wpList_plain rfl fun K1 hK1 => ?_
  go_simp
  refine (KO.out _ HT.out).mono ?_
  rintro e w1 ⟨rfl, hb1⟩
  refine hK1 _ _ ?_
  clear hK1 K1
  refine wpList_plain rfl fun K1 hK1 => ?_
  go_simp
  refine hK1 _ _ ?_
  clear hK1 K1
  refine wpList_plain rfl fun K1 hK1 => ?_
  go_simp
  refine hK1 _ _ ?_
  clear hK1 K1
  refine wpList_buildS rfl 45 #[(0, .tmp 29), (1, .tmp 30), (2, .tmp 31)] rfl [(0, .agg AG), (1, .string s), (2, .slice (some ⟨xb, xo, none⟩) m xc)] (by simp only [List.map_toArray, List.map_cons, List.map_nil]; rfl) SA BU.out ?_
  refine wpList_plain rfl fun K1 hK1 => ?_
  go_simp
  refine hK1 _ _ ?_
  clear hK1 K1
  have B1 : Hid (Below w.heap.size w w1) := hb1
  have S2 : Hid (SealAt ((w1.alloc (.cells Z 45)).setCells w1.heap.size 0 SA.toList) w1.heap.size G s (.slice (some ⟨xb, xo, none⟩) m xc)) := SS.out w1
  have B2 : Hid (Below w.heap.size w ((w1.alloc (.cells Z 45)).setCells w1.heap.size 0 SA.toList)) := below_setCells B1.out.size _ _ _ (B1.out.alloc B1.out.size _)
  have hq : w.heap.size ≤ w1.heap.size := B1.out.size
  clear hb1 KO FA B1
  refine wpList_store_mid rfl 45 (.tmp 11) (.tmp 32) rfl w1.heap.size 0 SA rfl rfl (by rw [SN.out]; exact TH.out w1) (by rw [SN.out]; exact Tryd.sizeSl) SO.out ?_
  generalize (w1.alloc (.cells Z 45)).setCells w1.heap.size 0 SA.toList = w2 at *
  generalize w1.heap.size = q at *
  clear BU SS SO SN TH z0
  go_upto_region 9 with fail
  have H := S2.out.drew
  have B3 : Hid (Below w.heap.size w w2.drew) := B2.out.drew
  have xc0 : ¬ c - n = 0 := by have := HL.out; omega
  refine wp_region_noPanic ?_
  refine wp_region_held_drew (S := fun w' => SealAt w' q G s (.slice (some ⟨xb, xo, none⟩) m xc)) (by kernel_rfl) H (fun _ => ?_)
  clear S2 B2
  refine wpAnyH_take (i := 0) (v := .slice (some ⟨b, 0, none⟩) L c) rfl (by kernel_rfl) (by kernel_rfl) (by kernel_rfl) (fun _ _ _ h => h) (Or.inl ⟨by rfl, ?_⟩) H ?_
  · intro w' hSw; go_simp
  change wpAnyH _ _ _ _ _ _ _ { tmps := #[_, _, _, _, _, _, _, _, _, _, _, _, _, _, _, _, _, _, _, _, _, _, _, _, _, _, _, _, _, _, _, _, _, _, _, _, _, _, _, _, _, _, _, _, _, _, _, _, _, _, _, _, _, _], defers := _ } _
  refine wpAnyH_take (i := 1) (v := .int .i64 (n : Int)) rfl (by kernel_rfl) (by kernel_rfl) (by kernel_rfl) (fun _ _ _ h => h) (Or.inl ⟨by rfl, ?_⟩) H ?_
  · intro w' hSw; go_simp
  change wpAnyH _ _ _ _ _ _ _ { tmps := #[_, _, _, _, _, _, _, _, _, _, _, _, _, _, _, _, _, _, _, _, _, _, _, _, _, _, _, _, _, _, _, _, _, _, _, _, _, _, _, _, _, _, _, _, _, _, _, _, _, _, _, _, _, _], defers := _ } _
  refine wpAnyH_take (i := 2) (v := .slice (some ⟨b, 0, none⟩) n c) rfl (by kernel_rfl) (by kernel_rfl) (by kernel_rfl) (fun _ _ _ h => h) (Or.inl ⟨by rfl, ?_⟩) H ?_
  · intro w' hSw; go_simp
  change wpAnyH _ _ _ _ _ _ _ { tmps := #[_, _, _, _, _, _, _, _, _, _, _, _, _, _, _, _, _, _, _, _, _, _, _, _, _, _, _, _, _, _, _, _, _, _, _, _, _, _, _, _, _, _, _, _, _, _, _, _, _, _, _, _, _, _], defers := _ } _
  refine wpAnyH_take (i := 4) (v := .slice (some ⟨b, 0, none⟩) L c) rfl (by kernel_rfl) (by kernel_rfl) (by kernel_rfl) (fun _ _ _ h => h) (Or.inl ⟨by rfl, ?_⟩) H ?_
  · intro w' hSw; go_simp
  change wpAnyH _ _ _ _ _ _ _ { tmps := #[_, _, _, _, _, _, _, _, _, _, _, _, _, _, _, _, _, _, _, _, _, _, _, _, _, _, _, _, _, _, _, _, _, _, _, _, _, _, _, _, _, _, _, _, _, _, _, _, _, _, _, _, _, _], defers := _ } _
  refine wpAnyH_take (i := 5) (v := .int .i64 (n : Int)) rfl (by kernel_rfl) (by kernel_rfl) (by kernel_rfl) (fun _ _ _ h => h) (Or.inl ⟨by rfl, ?_⟩) H ?_
  · intro w' hSw; go_simp
  change wpAnyH _ _ _ _ _ _ _ { tmps := #[_, _, _, _, _, _, _, _, _, _, _, _, _, _, _, _, _, _, _, _, _, _, _, _, _, _, _, _, _, _, _, _, _, _, _, _, _, _, _, _, _, _, _, _, _, _, _, _, _, _, _, _, _, _], defers := _ } _
  refine wpAnyH_take (i := 6) (v := .slice (some ⟨b, n, none⟩) 16 (c - n)) rfl (by kernel_rfl) (by kernel_rfl) (by kernel_rfl) (fun _ _ _ h => h) (Or.inl ⟨by rfl, ?_⟩) H ?_
  · intro w' hSw; go_simp; intro h; omega
  change wpAnyH _ _ _ _ _ _ _ { tmps := #[_, _, _, _, _, _, _, _, _, _, _, _, _, _, _, _, _, _, _, _, _, _, _, _, _, _, _, _, _, _, _, _, _, _, _, _, _, _, _, _, _, _, _, _, _, _, _, _, _, _, _, _, _, _], defers := _ } _
  refine wpAnyH_ready (rs := [3]) (by kernel_rfl) (by simp) ?_
  refine AllReadyH.cons rfl (fun KK hK => ?_) AllReadyH.nil
  go_simp
  refine (TG.out q w2.drew H (HX.out.below B3.out) (HC.out.below B3.out) (HT.out.below B3.out)).mono ?_
  rintro e w4 ⟨⟨tg, tc, rfl, htg, hr4⟩, hb4⟩
  have B4 : Hid (Below w.heap.size w w4) := B3.out.trans (hb4.mono B3.out.size)
  have R4 : Hid (Code8 w4 (some ⟨tg, 0, none⟩) 16 (strB TT)) := hr4.code
  replace H : SealAt w4 q G s (.slice (some ⟨xb, xo, none⟩) m xc) := H.below hb4
  clear hr4 hb4 htg B3 TG HX HT
  refine hK.out _ _ H (fun _ => ?_)
  clear hK KK
  change wpAnyH _ _ _ _ _ _ _ { tmps := #[_, _, _, _, _, _, _, _, _, _, _, _, _, _, _, _, _, _, _, _, _, _, _, _, _, _, _, _, _, _, _, _, _, _, _, _, _, _, _, _, _, _, _, _, _, _, _, _, _, _, _, _, _, _], defers := _ } _
  refine wpAnyH_ready (rs := [7]) (by kernel_rfl) (by simp) ?_
  refine AllReadyH.cons rfl (fun KK hK => ?_) AllReadyH.nil
  go_simp
  refine (EB.out tg tc (c - n) w4 R4.out (HE.out.below B4.out)).mono ?_
  rintro e w5 ⟨rfl, hb5⟩
  have B5 : Hid (Below w.heap.size w w5) := B4.out.trans (hb5.mono B4.out.size)
  replace H : SealAt w5 q G s (.slice (some ⟨xb, xo, none⟩) m xc) := H.below hb5
  clear hb5 B4 R4 EB HE
  refine hK.out _ _ H (fun _ => ?_)
  clear hK KK
  change wpAnyH _ _ _ _ _ _ _ { tmps := #[_, _, _, _, _, _, _, _, _, _, _, _, _, _, _, _, _, _, _, _, _, _, _, _, _, _, _, _, _, _, _, _, _, _, _, _, _, _, _, _, _, _, _, _, _, _, _, _, _, _, _, _, _, _], defers := _ } _
  refine wpAnyH_take (i := 8) (v := .tuple #[.bool OKB, .int .i64 0]) rfl (by kernel_rfl) (by kernel_rfl) (by kernel_rfl) (fun _ _ _ h => h) (Or.inl ⟨by rfl, ?_⟩) H ?_
  · intro w' hSw; go_simp
  change wpAnyH _ _ _ _ _ _ _ { tmps := #[_, _, _, _, _, _, _, _, _, _, _, _, _, _, _, _, _, _, _, _, _, _, _, _, _, _, _, _, _, _, _, _, _, _, _, _, _, _, _, _, _, _, _, _, _, _, _, _, _, _, _, _, _, _], defers := _ } _
  refine wpAnyH_take (i := 9) (v := .bool OKB) rfl (by kernel_rfl) (by kernel_rfl) (by kernel_rfl) (fun _ _ _ h => h) (Or.inl ⟨by rfl, ?_⟩) H ?_
  · intro w' hSw; go_simp
  change wpAnyH _ _ _ _ _ _ _ { tmps := #[_, _, _, _, _, _, _, _, _, _, _, _, _, _, _, _, _, _, _, _, _, _, _, _, _, _, _, _, _, _, _, _, _, _, _, _, _, _, _, _, _, _, _, _, _, _, _, _, _, _, _, _, _, _], defers := _ } _
  refine wpAnyH_take (i := 10) (v := .int .i64 0) rfl (by kernel_rfl) (by kernel_rfl) (by kernel_rfl) (fun _ _ _ h => h) (Or.inl ⟨by rfl, ?_⟩) H ?_
  · intro w' hSw; go_simp
  change wpAnyH _ _ _ _ _ _ _ { tmps := #[_, _, _, _, _, _, _, _, _, _, _, _, _, _, _, _, _, _, _, _, _, _, _, _, _, _, _, _, _, _, _, _, _, _, _, _, _, _, _, _, _, _, _, _, _, _, _, _, _, _, _, _, _, _], defers := _ } _
  refine wpAnyH_take (i := 11) (v := .bool OKB) rfl (by kernel_rfl) (by kernel_rfl) (by kernel_rfl) (fun _ _ _ h => h) (Or.inl ⟨by rfl, ?_⟩) H ?_
  · intro w' hSw; go_simp
  change wpAnyH _ _ _ _ _ _ _ { tmps := #[_, _, _, _, _, _, _, _, _, _, _, _, _, _, _, _, _, _, _, _, _, _, _, _, _, _, _, _, _, _, _, _, _, _, _, _, _, _, _, _, _, _, _, _, _, _, _, _, _, _, _, _, _, _], defers := _ } _
  refine wpAnyH_take (i := 12) (v := .int .i64 0) rfl (by kernel_rfl) (by kernel_rfl) (by kernel_rfl) (fun _ _ _ h => h) (Or.inl ⟨by rfl, ?_⟩) H ?_
  · intro w' hSw; go_simp
  change wpAnyH _ _ _ _ _ _ _ { tmps := #[_, _, _, _, _, _, _, _, _, _, _, _, _, _, _, _, _, _, _, _, _, _, _, _, _, _, _, _, _, _, _, _, _, _, _, _, _, _, _, _, _, _, _, _, _, _, _, _, _, _, _, _, _, _], defers := _ } _
  have H5 : Hid (SealAt w5 q G s (.slice (some ⟨xb, xo, none⟩) m xc)) := H
  have T5 : Hid (w5.there q 0 64) := H.there
  clear H
  refine wpAnyH_done (by kernel_rfl) ?_ _
  refine NoPanic.normal ?_
  cases OKB with
  | false =>
    go_wp2
    refine leaves_cons (f := 24) (args := #[.pointer (some ⟨q, 0, none⟩)]) (by simp) (by simp [go_sem]) ?_
    refine (forget_deferred q .returning _ T5.out).mono ?_
    rintro e u' w6 ⟨rfl, rfl, ho⟩
    exact ⟨_, results_tmp2 rfl _ _ _, RetOpen.no rfl, B5.out.trans (ho.toBelow hq B5.out.size)⟩
  | true =>
    go_wp2_with fail
    refine (ST.out q w5 H5.out (HC.out.below B5.out)).mono ?_
    rintro e w6 ⟨⟨g, cg, ⟨hg, hcg⟩, rfl, ho⟩, hb6⟩
    have S6 : SealAt w6 q G s (.slice (some ⟨xb, xo, none⟩) m xc) := H5.out.below hb6
    have B6 : Hid (Below w.heap.size w w6) := B5.out.trans (hb6.mono B5.out.size)
    have O6 : Hid (Own8 w6 g n F) := ho.own
    have hne : g ≠ q := by have := H5.out.lt; omega
    have hgw : w.heap.size ≤ g := Nat.le_trans B5.out.size hg
    have T6 : Hid (w6.there q 0 64) := S6.there
    clear ho hb6 S6 H5 T5 B5 HC ST hg
    go_wp2
    refine leaves_cons (f := 24) (args := #[.pointer (some ⟨q, 0, none⟩)]) (by simp) (by simp [go_sem]) ?_
    refine (forget_deferred q .returning _ T6.out).mono ?_
    rintro e u' w7 ⟨rfl, rfl, ho⟩
    exact ⟨_, results_tmp2 rfl _ _ _, RetOpen.yes ⟨g, cg, ⟨hgw, hcg⟩, rfl, O6.out.onlyB ho hne⟩, B6.out.trans (ho.toBelow hq B6.out.size)⟩
end Go.Proofs.YtonccbgolbcjfabDoor

/-
  The model's l04Open.
-/
namespace Go.Proofs.YtonccbgolbcjfabDoor
open Go.ChangeShapes Go.WideShapes Go.ChangeAt Go.RowKit
theorem okT_iff (k s : ByteArray) (m : Nat) (fx : Nat → Nat) (n : Nat) (f : Nat → Nat) (hf : ∀ i, f i < 256) : okT k s m fx n f = true ↔ tagT k s m fx n f = kstr (fun i => f (n + i)) 0 16 := by
  have hs := tagT_size k s m fx n f
  unfold okT
  generalize tagT k s m fx n f = TT at *
  have e1 : (((difF (strB TT) (fun i => f (n + i)) 0 16 : Nat) : Int) == 0) = true ↔ difF (strB TT) (fun i => f (n + i)) 0 16 = 0 := by rw [beq_iff_eq]; omega
  rw [e1, difF_zero]
  constructor
  · intro h
    have := kstr_self TT
    rw [hs] at this
    rw [← this]
    exact kstr_congr (fun i hi => by rw [Nat.zero_add]; exact h.2 i hi)
  · intro h
    refine ⟨rfl, fun i hi => ?_⟩
    rw [h]
    exact (strB_kstr (fun i => f (n + i)) 0 16 i (hf _) hi).trans (by show f (n + (0 + i)) = f (n + i); rw [Nat.zero_add])
def RetOpenS (w w' : World) (e : Ending) (n : Nat) (F : Nat → Nat) (r : Bool) : Prop := if r then RetB2 w w' e n F (.bool true) else ∃ a c, e = .returned (.tuple #[.slice a 0 c, .bool false])
theorem RetOpenS.no {w w' : World} {e : Ending} {n : Nat} {F : Nat → Nat} (h : ∃ a c, e = .returned (.tuple #[.slice a 0 c, .bool false])) : RetOpenS w w' e n F false := by unfold RetOpenS; rw [if_neg (by decide)]; exact h
theorem RetOpenS.yes {w w' : World} {e : Ending} {n : Nat} {F : Nat → Nat} (h : RetB2 w w' e n F (.bool true)) : RetOpenS w w' e n F true := by unfold RetOpenS; rw [if_pos rfl]; exact h
set_option maxRecDepth 100000 in
set_option maxHeartbeats 4000000 in
theorem l04Open_any (k s : ByteArray) (xb xo m xc b n c : Nat) (fx f : Nat → Nat) (hk : k.size = 32) (hs : s.size = 12) (hm : m ≤ 65536) (hn : n + 16 ≤ 65536) (hcap : n + 16 ≤ c) (hfx : ∀ i, fx i < 256) (hf : ∀ i, f i < 256) (w : World) (hx : Code8 w (some ⟨xb, xo, none⟩) m fx) (hc : Code8 w (some ⟨b, 0, none⟩) (n + 16) f) :
    Calls Tryd.prog 28 #[.string k, .string s, .slice (some ⟨xb, xo, none⟩) m xc, .slice (some ⟨b, 0, none⟩) (n + 16) c] w fun e w' => RetOpenS w w' e n (streamF k s f) (okT k s m fx n f) ∧ Below w.heap.size w w' := by
  have KE : Hid (∀ w : World, Calls Tryd.prog 30 #[.string k] w fun e w' => e = .returned (.tuple #[.string (encS k), .string (tagS k)]) ∧ Below w.heap.size w w') := fun w => l04Keys_any k hk w
  have CX : Hid (∀ w : World, Code8 w (some ⟨b, 0, none⟩) n f → Calls Tryd.prog 31 #[.string (encS k), .string s, .slice (some ⟨b, 0, none⟩) n c] w fun e w' => RetC w w' e n (streamF k s f) ∧ Below w.heap.size w w') := fun w h => l02CtrC_any (encS k) s 8 b 0 n c f (.inr rfl) (by rw [encS_size]) hs (by omega) hf w h
  have TG : Hid (∀ (w : World), Code8 w (some ⟨xb, xo, none⟩) m fx → Code8 w (some ⟨b, 0, none⟩) n f → Calls Tryd.prog 32 #[.string (tagS k), .string s, .slice (some ⟨xb, xo, none⟩) m xc, .slice (some ⟨b, 0, none⟩) n c] w fun e w' => e = .returned (.string (tagT k s m fx n f)) ∧ Below w.heap.size w w') := fun w h1 h2 => l04Tag_any k s xb xo m xc b 0 n c fx f hs hm (by omega) hfx hf w h1 h2
  have OI : Hid (okT k s m fx n f = true ↔ tagT k s m fx n f = kstr (fun i => f (n + i)) 0 16) := okT_iff k s m fx n f hf
  generalize okT k s m fx n f = OKB at *
  generalize tagT k s m fx n f = TT at *
  generalize streamF k s f = F at *
  generalize encS k = E at *
  generalize tagS k = TK at *
  have HX : Hid (Code8 w (some ⟨xb, xo, none⟩) m fx) := hx
  have HC : Hid (Code8 w (some ⟨b, 0, none⟩) n f) := fun i hi => hc i (by omega)
  have HE : Hid (Code8 w (some ⟨b, n, none⟩) 16 (fun i => f (n + i))) := code8_of (fun i hi => by
    obtain ⟨b', o', e, hcc⟩ := hc (n + i) (by omega)
    cases e
    rw [Nat.zero_add] at hcc
    exact hcc)
  have x2 : ((n + 16 : Nat) : Int) - 16 = (n : Int) := by omega
  have x1 : ¬ (n : Int) < 0 := by omega
  have x3 : (n : Int) ≤ (c : Int) := by omega
  have x4 : (n : Int) ≤ ((n + 16 : Nat) : Int) := by omega
  have x5 : n + 16 - n = 16 := by omega
  clear hx hc hfx hf hk hs
  obtain ⟨L, hL⟩ : ∃ L, L = n + 16 := ⟨_, rfl⟩
  rw [← hL] at x2 x4 x5 ⊢
  have x6 : (L : Int) ≤ (c : Int) := by omega
  have xc0 : ¬ c - n = 0 := by omega
  clear hL
  generalize hTB : kstr (fun i => f (n + i)) 0 16 = TB at *
  have HTB : Hid (kstr (fun i => f (n + i)) 0 16 = TB) := hTB
  clear hTB
  go_enter Tryd.func28, Tryd.ntmps28
  go_upto_region 5 with (go_at_call 30; refine (KE.out _).mono ?_; rintro e w1 ⟨rfl, hb1⟩)
  have B2 : Hid (Below w.heap.size w w1.drew) := (Below.trans (Below.refl _ _) hb1).drew
  have H : Code8 w1.drew (some ⟨b, n, none⟩) 16 (fun i => f (n + i)) := HE.out.below B2.out
  clear hb1 KE
  refine wp_region_noPanic ?_
  refine wp_region_held_drew (S := fun w' => Code8 w' (some ⟨b, n, none⟩) 16 (fun i => f (n + i))) (by kernel_rfl) H (fun _ => ?_)
  refine wpAnyH_take (i := 0) (v := .string TK) rfl (by kernel_rfl) (by kernel_rfl) (by kernel_rfl) (fun _ _ _ h => h) (Or.inl ⟨by rfl, ?_⟩) H ?_
  · intro w' hSw; clear hSw; go_simp
  change wpAnyH _ _ _ _ _ _ _ { tmps := #[_, _, _, _, _, _, _, _, _, _, _, _, _, _, _, _, _, _, _, _, _, _, _, _, _, _, _, _, _, _, _, _, _, _, _, _, _, _, _, _, _, _, _], defers := _ } _
  refine wpAnyH_take (i := 1) (v := .string s) rfl (by kernel_rfl) (by kernel_rfl) (by kernel_rfl) (fun _ _ _ h => h) (Or.inl ⟨by rfl, ?_⟩) H ?_
  · intro w' hSw; clear hSw; go_simp
  change wpAnyH _ _ _ _ _ _ _ { tmps := #[_, _, _, _, _, _, _, _, _, _, _, _, _, _, _, _, _, _, _, _, _, _, _, _, _, _, _, _, _, _, _, _, _, _, _, _, _, _, _, _, _, _, _], defers := _ } _
  refine wpAnyH_take (i := 2) (v := .slice (some ⟨xb, xo, none⟩) m xc) rfl (by kernel_rfl) (by kernel_rfl) (by kernel_rfl) (fun _ _ _ h => h) (Or.inl ⟨by rfl, ?_⟩) H ?_
  · intro w' hSw; clear hSw; go_simp
  change wpAnyH _ _ _ _ _ _ _ { tmps := #[_, _, _, _, _, _, _, _, _, _, _, _, _, _, _, _, _, _, _, _, _, _, _, _, _, _, _, _, _, _, _, _, _, _, _, _, _, _, _, _, _, _, _], defers := _ } _
  refine wpAnyH_take (i := 3) (v := .slice (some ⟨b, 0, none⟩) L c) rfl (by kernel_rfl) (by kernel_rfl) (by kernel_rfl) (fun _ _ _ h => h) (Or.inl ⟨by rfl, ?_⟩) H ?_
  · intro w' hSw; clear hSw; go_simp
  change wpAnyH _ _ _ _ _ _ _ { tmps := #[_, _, _, _, _, _, _, _, _, _, _, _, _, _, _, _, _, _, _, _, _, _, _, _, _, _, _, _, _, _, _, _, _, _, _, _, _, _, _, _, _, _, _], defers := _ } _
  refine wpAnyH_take (i := 4) (v := .int .i64 (n : Int)) rfl (by kernel_rfl) (by kernel_rfl) (by kernel_rfl) (fun _ _ _ h => h) (Or.inl ⟨by rfl, ?_⟩) H ?_
  · intro w' hSw; clear hSw; go_simp
  change wpAnyH _ _ _ _ _ _ _ { tmps := #[_, _, _, _, _, _, _, _, _, _, _, _, _, _, _, _, _, _, _, _, _, _, _, _, _, _, _, _, _, _, _, _, _, _, _, _, _, _, _, _, _, _, _], defers := _ } _
  refine wpAnyH_take (i := 5) (v := .slice (some ⟨b, 0, none⟩) n c) rfl (by kernel_rfl) (by kernel_rfl) (by kernel_rfl) (fun _ _ _ h => h) (Or.inl ⟨by rfl, ?_⟩) H ?_
  · intro w' hSw; clear hSw; go_simp
  change wpAnyH _ _ _ _ _ _ _ { tmps := #[_, _, _, _, _, _, _, _, _, _, _, _, _, _, _, _, _, _, _, _, _, _, _, _, _, _, _, _, _, _, _, _, _, _, _, _, _, _, _, _, _, _, _], defers := _ } _
  refine wpAnyH_take (i := 7) (v := .slice (some ⟨b, 0, none⟩) L c) rfl (by kernel_rfl) (by kernel_rfl) (by kernel_rfl) (fun _ _ _ h => h) (Or.inl ⟨by rfl, ?_⟩) H ?_
  · intro w' hSw; clear hSw; go_simp
  change wpAnyH _ _ _ _ _ _ _ { tmps := #[_, _, _, _, _, _, _, _, _, _, _, _, _, _, _, _, _, _, _, _, _, _, _, _, _, _, _, _, _, _, _, _, _, _, _, _, _, _, _, _, _, _, _], defers := _ } _
  refine wpAnyH_take (i := 8) (v := .int .i64 (n : Int)) rfl (by kernel_rfl) (by kernel_rfl) (by kernel_rfl) (fun _ _ _ h => h) (Or.inl ⟨by rfl, ?_⟩) H ?_
  · intro w' hSw; clear hSw; go_simp
  change wpAnyH _ _ _ _ _ _ _ { tmps := #[_, _, _, _, _, _, _, _, _, _, _, _, _, _, _, _, _, _, _, _, _, _, _, _, _, _, _, _, _, _, _, _, _, _, _, _, _, _, _, _, _, _, _], defers := _ } _
  refine wpAnyH_take (i := 9) (v := .slice (some ⟨b, n, none⟩) 16 (c - n)) rfl (by kernel_rfl) (by kernel_rfl) (by kernel_rfl) (fun _ _ _ h => h) (Or.inl ⟨by rfl, ?_⟩) H ?_
  · intro w' hSw; clear hSw; go_simp; intro h; omega
  change wpAnyH _ _ _ _ _ _ _ { tmps := #[_, _, _, _, _, _, _, _, _, _, _, _, _, _, _, _, _, _, _, _, _, _, _, _, _, _, _, _, _, _, _, _, _, _, _, _, _, _, _, _, _, _, _], defers := _ } _
  refine wpAnyH_take (i := 10) (v := .string TB) rfl (by kernel_rfl) (by kernel_rfl) (by kernel_rfl) (fun _ _ _ h => h) (Or.inl ⟨by rfl, ?_⟩) H ?_
  · intro w' hSw; have := kstr_of_code (c := c - n) hSw; rw [HTB.out] at this; clear hSw; go_simp
  change wpAnyH _ _ _ _ _ _ _ { tmps := #[_, _, _, _, _, _, _, _, _, _, _, _, _, _, _, _, _, _, _, _, _, _, _, _, _, _, _, _, _, _, _, _, _, _, _, _, _, _, _, _, _, _, _], defers := _ } _
  refine wpAnyH_ready (rs := [6]) (by kernel_rfl) (by simp) ?_
  refine AllReadyH.cons rfl (fun KK hK => ?_) AllReadyH.nil
  go_simp
  refine (TG.out w1.drew (HX.out.below B2.out) (HC.out.below B2.out)).mono ?_
  rintro e w3 ⟨rfl, hb3⟩
  have B3 : Hid (Below w.heap.size w w3) := B2.out.trans (hb3.mono B2.out.size)
  replace H : Code8 w3 (some ⟨b, n, none⟩) 16 (fun i => f (n + i)) := H.below hb3
  clear hb3 B2 TG HX
  refine hK.out _ _ H (fun _ => ?_)
  clear hK KK
  change wpAnyH _ _ _ _ _ _ _ { tmps := #[_, _, _, _, _, _, _, _, _, _, _, _, _, _, _, _, _, _, _, _, _, _, _, _, _, _, _, _, _, _, _, _, _, _, _, _, _, _, _, _, _, _, _], defers := _ } _
  by_cases hq : TT = TB
  · have hb : OKB = true := OI.out.2 hq
    subst hb hq
    have H' := H
    refine wpAnyH_take (i := 11) (v := .bool false) rfl (by kernel_rfl) (by kernel_rfl) (by kernel_rfl) (fun _ _ _ h => h) (Or.inl ⟨by rfl, ?_⟩) H ?_
    · intro w' hSw; clear hSw; go_simp
    change wpAnyH _ _ _ _ _ _ _ { tmps := #[_, _, _, _, _, _, _, _, _, _, _, _, _, _, _, _, _, _, _, _, _, _, _, _, _, _, _, _, _, _, _, _, _, _, _, _, _, _, _, _, _, _, _], defers := _ } _
    clear H H' OI
    refine wpAnyH_done (by kernel_rfl) ?_ _
    refine NoPanic.normal ?_
    go_wp2_with fail
    refine (CX.out w3 (HC.out.below B3.out)).mono ?_
    rintro e w4 ⟨⟨g, cg, ⟨hg, hcg⟩, rfl, ho⟩, hb4⟩
    have B4 : Hid (Below w.heap.size w w4) := B3.out.trans (hb4.mono B3.out.size)
    have O4 : Hid (Own8 w4 g n F) := ho.own
    have hgw : w.heap.size ≤ g := Nat.le_trans B3.out.size hg
    clear ho hb4 hg B3 HC CX
    go_wp2
    go_ret2
    exact ⟨RetOpenS.yes ⟨g, cg, ⟨hgw, hcg⟩, rfl, O4.out⟩, B4.out⟩
  · have hb : OKB = false := by
      cases OKB with
      | false => rfl
      | true => exact absurd (OI.out.1 rfl) hq
    subst hb
    have hne : ¬ TT.toList = TB.toList := fun g => hq (by rw [ByteArray.toList_eq, ByteArray.toList_eq] at g; exact ba_ext g)
    refine wpAnyH_take (i := 11) (v := .bool true) rfl (by kernel_rfl) (by kernel_rfl) (by kernel_rfl) (fun _ _ _ h => h) (Or.inl ⟨by rfl, ?_⟩) H ?_
    · intro w' hSw; clear hSw; go_simp
    change wpAnyH _ _ _ _ _ _ _ { tmps := #[_, _, _, _, _, _, _, _, _, _, _, _, _, _, _, _, _, _, _, _, _, _, _, _, _, _, _, _, _, _, _, _, _, _, _, _, _, _, _, _, _, _, _], defers := _ } _
    clear H OI
    refine wpAnyH_done (by kernel_rfl) ?_ _
    refine NoPanic.normal ?_
    have B4 : Hid (Below w.heap.size w (w3.alloc (.cells #[] 5))) := B3.out.alloc B3.out.size _
    go_wp2
    go_ret2
    exact ⟨RetOpenS.no ⟨_, _, rfl⟩, B4.out⟩
end Go.Proofs.YtonccbgolbcjfabDoor

/-
  Pieces opened: OpenPiece of the program and of the model.
-/
namespace Go.Proofs.YtonccbgolbcjfabDoor
open Go.ChangeShapes Go.WideShapes Go.ChangeAt Go.RowKit
set_option linter.unusedVariables false
/-- What is open of n + 16 bytes. -/
def pcOpn (k : ByteArray) (P V n : Nat) (t : ByteArray) : ByteArray := kstr (streamF k (pcNon P V) (strB t)) 0 n
def pcOk (k : ByteArray) (P V n : Nat) (t : ByteArray) : Bool := okT k (pcNon P V) 5 pieceX n (strB t)
/-- A text is a sealed piece, that opens to T. -/
def OpnIs (k : ByteArray) (P V : Nat) (t T : ByteArray) : Prop := ∃ n, t.size = n + 16 ∧ pcOk k P V n t = true ∧ (1 ≤ n ∧ n ≤ 64) ∧ T = pcOpn k P V n t
/-- What OpenPiece answers. -/
def OpIs (k : ByteArray) (p v : Int) (t T : ByteArray) (c : Int) : Prop :=
  (PfP k p v t c ∧ c ≠ 0 ∧ T = ⟨#[]⟩) ∨ (PfP k p v t 0 ∧ (∀ T, ¬ OpnIs k p.toNat v.toNat t T) ∧ c = 10 ∧ T = ⟨#[]⟩) ∨ (PfP k p v t 0 ∧ OpnIs k p.toNat v.toNat t T ∧ c = 0)
theorem OpIs.ex (k : ByteArray) (p v : Int) (t : ByteArray) : ∃ T c, OpIs k p v t T c := by
  obtain ⟨c, h⟩ := PfP.ex k p v t
  by_cases hc : c = 0
  · subst hc
    by_cases h1 : ∃ T, OpnIs k p.toNat v.toNat t T
    · obtain ⟨T, h1⟩ := h1
      exact ⟨T, _, .inr (.inr ⟨h, h1, rfl⟩)⟩
    · exact ⟨_, _, .inr (.inl ⟨h, fun T q => h1 ⟨T, q⟩, rfl, rfl⟩)⟩
  · exact ⟨_, _, .inl ⟨h, hc, rfl⟩⟩
theorem convNil (w : World) : (convert 30 9 (.slice none 0 0)).run Tryd.prog w = .ok (.string ⟨#[]⟩) w := by
  simp [convert, run_underlying Tryd.underlying30, run_underlying Tryd.underlying9, run_underlying Tryd.underlying5, Conv.bytesToString]
  rfl
/-- What the bytes of OpenBytes come to: a text and whether it is right. -/
def RetOb (w w' : World) (e : Ending) (k : ByteArray) (P V : Nat) (t : ByteArray) (T : ByteArray) (ok : Bool) : Prop := ∃ (a : Option Addr) (n c : Nat) (x : Int), e = .returned (.tuple #[.slice a n c, .int .i64 x]) ∧ (∀ u, Below w'.heap.size w' u → (convert 30 9 (.slice a n c)).run Tryd.prog u = .ok (.string T) u) ∧ (if ok then x = 0 else x ≠ 0)
set_option maxRecDepth 100000 in
set_option maxHeartbeats 4000000 in
theorem implOpenP_any (k : ByteArray) (p v : Int) (t T : ByteArray) (c : Int) (hA : OpIs k p v t T c) (w : World) (ht : Tabs w) :
    Calls Tryd.prog 8 #[.string k, .int .i64 p, .int .i64 v, .string t] w fun e w' => e = .returned (.tuple #[.string T, .int .i64 c]) ∧ Below w.heap.size w w' := by
  by_cases hc : PfP k p v t 0
  · obtain ⟨htz, hk, hp, hv⟩ := hc.zero
    obtain ⟨P, rfl⟩ := Int.eq_ofNat_of_zero_le hp.1
    obtain ⟨V, rfl⟩ := Int.eq_ofNat_of_zero_le (show 0 ≤ v by omega)
    have PF : Hid (∀ w : World, Calls Tryd.prog 12 #[.string k, .int .i64 (P : Int), .int .i64 (V : Int), .string t] w fun e w' => e = .returned (.int .i64 0) ∧ w = w') := pieceFault_any k P V t 0 hc
    have NO : Hid (∀ w : World, Calls Tryd.prog 15 #[.int .i64 (P : Int), .int .i64 (V : Int)] w fun e w' => e = .returned (.string (pcNon P V)) ∧ Below w.heap.size w w') := fun w => pieceNonce_any P V (by omega) (by omega) w
    have hA2 : ((∀ T, ¬ OpnIs k P V t T) ∧ c = 10 ∧ T = ⟨#[]⟩) ∨ (OpnIs k P V t T ∧ c = 0) := by
      rcases hA with ⟨h, hc2, rfl⟩ | ⟨h, h1, h2⟩ | ⟨h, h1⟩
      · have : c = 0 := by
          rcases h with ⟨rfl, h⟩ | ⟨rfl, _, _, h⟩ | ⟨rfl, _, _, h⟩ | ⟨rfl, _⟩
          · rcases h with h | h
            · omega
            · exact absurd h htz
          · exact absurd hk h
          · exact absurd ⟨hp, hv⟩ h
          · rfl
        exact absurd this hc2
      · exact .inl ⟨h1, h2⟩
      · exact .inr h1
    have HT : Hid (Tabs w) := ht
    -- what OpenBytes answers
    have OB : Hid (∃ (TT : ByteArray) (ok : Bool), (∀ (xb xc b c : Nat) (w : World), t.size ≤ c → Code8 w (some ⟨xb, 0, none⟩) 5 pieceX → Code8 w (some ⟨b, 0, none⟩) t.size (strB t) → Tabs w → Calls Tryd.prog 17 #[.string k, .string (pcNon P V), .slice (some ⟨xb, 0, none⟩) 5 xc, .slice (some ⟨b, 0, none⟩) t.size c] w fun e w' => RetOb w w' e k P V t TT ok ∧ Below w.heap.size w w') ∧ ((ok = true ∧ (1 ≤ TT.size ∧ TT.size ≤ 64) ∧ TT = T ∧ c = 0) ∨ (¬ (ok = true ∧ (1 ≤ TT.size ∧ TT.size ≤ 64)) ∧ T = ⟨#[]⟩ ∧ c = 10))) := by
      show ∃ _, _
      by_cases h16 : t.size < 16
      · refine ⟨⟨#[]⟩, false, fun xb xc b c w hcc h1 h2 h3 => (implOpen_form k (pcNon P V) _ _ 5 xc t.size c h16 (sfault_ok k _ 5 t.size 65536 hk (kstr_size _ _ _) (by omega) (by omega)) w).mono ?_, ?_⟩
        · rintro e w' ⟨rfl, rfl⟩
          exact ⟨⟨none, 0, 0, 3, rfl, fun u _ => convNil u, by show (3 : Int) ≠ 0; decide⟩, Below.refl _ _⟩
        · refine .inr ⟨fun q => (by cases q.1), ?_⟩
          rcases hA2 with ⟨_, rfl, rfl⟩ | ⟨⟨n, hn, _⟩, _⟩
          · exact ⟨rfl, rfl⟩
          · omega
      · obtain ⟨n, hn⟩ : ∃ n, t.size = n + 16 := ⟨t.size - 16, by omega⟩
        by_cases ho : pcOk k P V n t = true
        · refine ⟨pcOpn k P V n t, true, fun xb xc b c w hcc h1 h2 h3 => ?_, ?_⟩
          · have := implOpen_yes k (pcNon P V) xb 0 5 xc b n c pieceX (strB t) hk (kstr_size _ _ _) (by omega) (by omega) (by omega) pieceX_lt (strB_lt _) w h1 (by rw [← hn]; exact h2) h3
            rw [← hn] at this
            refine this.mono ?_
            rintro e w' ⟨hr, hb⟩
            have hr2 : RetB2 w w' e n (streamF k (pcNon P V) (strB t)) (.int .i64 0) := by
              unfold RetOpen at hr
              rwa [if_pos (show okT k (pcNon P V) 5 pieceX n (strB t) = true from ho)] at hr
            obtain ⟨b2, c2, _, rfl, ho2⟩ := hr2
            exact ⟨⟨_, n, c2, 0, rfl, fun u hu => kstr_of_code (ho2.code.below hu), by show (0 : Int) = 0; rfl⟩, hb⟩
          · have es : (pcOpn k P V n t).size = n := kstr_size _ _ _
            rw [es]
            rcases hA2 with ⟨h1, rfl, rfl⟩ | ⟨⟨m, hm, h2, h3, h4⟩, rfl⟩
            · exact .inr ⟨fun q => h1 _ ⟨n, hn, ho, q.2, rfl⟩, rfl, rfl⟩
            · obtain rfl : m = n := by omega
              exact .inl ⟨rfl, h3, h4.symm, rfl⟩
        · refine ⟨⟨#[]⟩, false, fun xb xc b c w hcc h1 h2 h3 => ?_, ?_⟩
          · have := implOpen_yes k (pcNon P V) xb 0 5 xc b n c pieceX (strB t) hk (kstr_size _ _ _) (by omega) (by omega) (by omega) pieceX_lt (strB_lt _) w h1 (by rw [← hn]; exact h2) h3
            rw [← hn] at this
            refine this.mono ?_
            rintro e w' ⟨hr, hb⟩
            unfold RetOpen at hr
            rw [if_neg (show ¬ okT k (pcNon P V) 5 pieceX n (strB t) = true from ho)] at hr
            subst hr
            exact ⟨⟨none, 0, 0, 10, rfl, fun u _ => convNil u, by show (10 : Int) ≠ 0; decide⟩, hb⟩
          · refine .inr ⟨fun q => (by cases q.1), ?_⟩
            rcases hA2 with ⟨_, rfl, rfl⟩ | ⟨⟨m, hm, h2, _⟩, _⟩
            · exact ⟨rfl, rfl⟩
            · obtain rfl : m = n := by omega
              exact absurd h2 ho
    obtain ⟨TT, ok, hOB, hcs⟩ := OB.out
    have OY : Hid (∀ (xb xc b c : Nat) (w : World), t.size ≤ c → Code8 w (some ⟨xb, 0, none⟩) 5 pieceX → Code8 w (some ⟨b, 0, none⟩) t.size (strB t) → Tabs w → Calls Tryd.prog 17 #[.string k, .string (pcNon P V), .slice (some ⟨xb, 0, none⟩) 5 xc, .slice (some ⟨b, 0, none⟩) t.size c] w fun e w' => RetOb w w' e k P V t TT ok ∧ Below w.heap.size w w') := hOB
    have HCS : Hid ((ok = true ∧ (1 ≤ TT.size ∧ TT.size ≤ 64) ∧ TT = T ∧ c = 0) ∨ (¬ (ok = true ∧ (1 ≤ TT.size ∧ TT.size ≤ 64)) ∧ T = ⟨#[]⟩ ∧ c = 10)) := hcs
    clear hA hA2 OB hOB hcs hc htz hk hp hv ht
    generalize pcNon P V = NN at *
    go_enter Tryd.func8, Tryd.ntmps8
    go_wp2_with fail
    refine (PF.out _).mono ?_
    rintro e _ ⟨rfl, rfl⟩
    go_wp2_with fail
    refine (NO.out _).mono ?_
    rintro e v2 ⟨rfl, hb⟩
    have A1 : Hid (Below w.heap.size w v2) := hb
    clear hb NO PF
    have hcv1 : (convert 30 30 (.slice (some ⟨v2.heap.size, 0, none⟩) 5 5)).run Tryd.prog (v2.alloc (.cells #[.int .u8 112, .int .u8 105, .int .u8 101, .int .u8 99, .int .u8 101] 5)) = .ok (.slice (some ⟨v2.heap.size, 0, none⟩) 5 5) (v2.alloc (.cells #[.int .u8 112, .int .u8 105, .int .u8 101, .int .u8 99, .int .u8 101] 5 (5, 6))) := conv_rowS v2 #[.int .u8 112, .int .u8 105, .int .u8 101, .int .u8 99, .int .u8 101] 5 5
    have hbA : Below v2.heap.size v2 (v2.alloc (.cells #[.int .u8 112, .int .u8 105, .int .u8 101, .int .u8 99, .int .u8 101] 5 (5, 6))) := (Below.refl _ _).alloc (Nat.le_refl _) _
    have X3 : Hid (Code8 (v2.alloc (.cells #[.int .u8 112, .int .u8 105, .int .u8 101, .int .u8 99, .int .u8 101] 5 (5, 6))) (some ⟨v2.heap.size, 0, none⟩) 5 pieceX) := piece_code v2
    replace A1 : Hid (Below w.heap.size w (v2.alloc (.cells #[.int .u8 112, .int .u8 105, .int .u8 101, .int .u8 99, .int .u8 101] 5 (5, 6)))) := A1.out.trans (hbA.mono A1.out.size)
    clear hbA
    generalize (v2.alloc (.cells #[.int .u8 112, .int .u8 105, .int .u8 101, .int .u8 99, .int .u8 101] 5 (5, 6))) = v3 at *
    obtain ⟨v4, c4, hcv, hk4, hb4, hgc4⟩ := bytesOfM t v3
    have X4 : Hid (Code8 v4 (some ⟨v2.heap.size, 0, none⟩) 5 pieceX) := X3.out.below hb4
    have K4 : Hid (Code8 v4 (some ⟨v3.heap.size, 0, none⟩) t.size (strB t)) := hk4
    have B4 : Hid (Below w.heap.size w v4) := A1.out.trans (hb4.mono A1.out.size)
    have G4 : Hid (t.size ≤ c4) := hgc4
    clear hk4 hb4 X3 A1 hgc4
    go_wp2_with fail
    refine (OY.out _ _ _ _ _ G4.out X4.out K4.out (HT.out.below B4.out)).mono ?_
    rintro e v5 ⟨⟨a5, n5, c5, x5, rfl, hcv5, hx5⟩, hb⟩
    have B5 : Hid (Below w.heap.size w v5) := B4.out.trans (hb.mono B4.out.size)
    have cv5 := hcv5 v5 (Below.refl _ _)
    clear hb hcv hcv1 hcv5 X4 K4 B4 OY HT G4
    cases ok with
    | false =>
      have x0 : x5 ≠ 0 := hx5
      have e1 : (x5 != 0) = true := by simp [x0]
      obtain ⟨rfl, rfl⟩ : T = ⟨#[]⟩ ∧ c = 10 := by
        rcases HCS.out with ⟨q, _⟩ | ⟨_, q⟩
        · cases q
        · exact q
      clear HCS hx5 x0
      go_wp2
      exact bodyPost_ret (results_tmp2 Tryd.results8 _ _ _) rfl ⟨rfl, B5.out⟩
    | true =>
      obtain rfl : x5 = 0 := hx5
      by_cases hz : 1 ≤ TT.size ∧ TT.size ≤ 64
      · have IP : Hid (∀ w : World, Calls Tryd.prog 13 #[.string TT] w fun e w' => e = .returned (.bool true) ∧ w = w') := fun w => isPieceP TT true (by simp; omega) w
        obtain ⟨rfl, rfl⟩ : TT = T ∧ c = 0 := by
          rcases HCS.out with ⟨_, _, q⟩ | ⟨q, _⟩
          · exact q
          · exact absurd ⟨rfl, hz⟩ q
        clear HCS hz
        go_wp2_with fail
        refine (IP.out _).mono ?_
        rintro e _ ⟨rfl, rfl⟩
        go_wp2
        exact bodyPost_ret (results_tmp2 Tryd.results8 _ _ _) rfl ⟨rfl, B5.out⟩
      · have IP : Hid (∀ w : World, Calls Tryd.prog 13 #[.string TT] w fun e w' => e = .returned (.bool false) ∧ w = w') := fun w => isPieceP TT false (by simp; omega) w
        obtain ⟨rfl, rfl⟩ : T = ⟨#[]⟩ ∧ c = 10 := by
          rcases HCS.out with ⟨_, q, _⟩ | ⟨_, q⟩
          · exact absurd q hz
          · exact q
        clear HCS hz
        go_wp2_with fail
        refine (IP.out _).mono ?_
        rintro e _ ⟨rfl, rfl⟩
        go_wp2
        exact bodyPost_ret (results_tmp2 Tryd.results8 _ _ _) rfl ⟨rfl, B5.out⟩
  · obtain ⟨h, hc2, rfl⟩ : PfP k p v t c ∧ c ≠ 0 ∧ T = ⟨#[]⟩ := by
      rcases hA with h | ⟨h, _⟩ | ⟨h, _⟩
      · exact h
      · exact absurd h hc
      · exact absurd h hc
    have PF : Hid (∀ w : World, Calls Tryd.prog 12 #[.string k, .int .i64 p, .int .i64 v, .string t] w fun e w' => e = .returned (.int .i64 c) ∧ w = w') := pieceFault_any k p v t c h
    have e1 : (c != 0) = true := by simp [hc2]
    clear h hc hc2 ht hA
    go_enter Tryd.func8, Tryd.ntmps8
    go_wp2_with fail
    refine (PF.out _).mono ?_
    rintro e _ ⟨rfl, rfl⟩
    go_wp2
    exact bodyPost_ret (results_tmp2 Tryd.results8 _ _ _) rfl ⟨rfl, Below.refl _ _⟩
set_option maxRecDepth 100000 in
theorem l04Open_short (k s : ByteArray) (a b : Option Addr) (m x n c : Nat) (hn : n < 16) (w : World) :
    Calls Tryd.prog 28 #[.string k, .string s, .slice a m x, .slice b n c] w fun e w' => (∃ g, e = .returned (.tuple #[.slice (some ⟨g, 0, none⟩) 0 0, .bool false])) ∧ Below w.heap.size w w' := by
  have n0 : (n : Int) - 16 < 0 := by omega
  have n1 : (n : Int) < 16 := by omega
  go_enter Tryd.func28, Tryd.ntmps28
  go_wp2
  exact bodyPost_ret (results_tmp2 Tryd.results28 _ _ _) rfl ⟨⟨_, rfl⟩, (Below.refl _ _).alloc (Nat.le_refl _) _⟩
theorem convNone (a : Option Addr) (c : Nat) (w : World) : (convert 30 9 (.slice a 0 c)).run Tryd.prog w = .ok (.string ⟨#[]⟩) w := by
  cases a with
  | none =>
    simp [convert, run_underlying Tryd.underlying30, run_underlying Tryd.underlying9, run_underlying Tryd.underlying5, Conv.bytesToString]
    rfl
  | some x =>
    simp [convert, run_underlying Tryd.underlying30, run_underlying Tryd.underlying9, run_underlying Tryd.underlying5, Conv.bytesToString]
    rfl
/-- A text, right if r says so. -/
def OpX (e : Ending) (r : Bool) (T : ByteArray) : Prop := ∃ X, e = .returned (.tuple #[.string X, .bool r]) ∧ (r = true → X = T)
/-- What the model's opening comes to: a text and whether it is right. -/
def RetOs (w' : World) (e : Ending) (T : ByteArray) (ok : Bool) : Prop := ∃ (a : Option Addr) (n c : Nat), e = .returned (.tuple #[.slice a n c, .bool ok]) ∧ n = T.size ∧ (∀ u, Below w'.heap.size w' u → (convert 30 9 (.slice a n c)).run Tryd.prog u = .ok (.string T) u)
set_option maxRecDepth 100000 in
set_option maxHeartbeats 4000000 in
theorem l12Open_any (k : ByteArray) (P V : Nat) (t : ByteArray) (hk : k.size = 32) (hP : P < 16) (hV : V ≤ 65535) (htz : ¬ 65536 < t.size) (T : ByteArray) (r : Bool) (hA : (r = true ∧ OpnIs k P V t T) ∨ (r = false ∧ ∀ T, ¬ OpnIs k P V t T)) (w : World) :
    Calls Tryd.prog 16 #[.string k, .int .i64 (P : Int), .int .i64 (V : Int), .string t] w fun e w' => OpX e r T ∧ Below w.heap.size w w' := by
  have NO : Hid (∀ w : World, Calls Tryd.prog 19 #[.int .i64 (16 + (P : Int)), .int .i64 (V : Int)] w fun e w' => e = .returned (.string (pcNon P V)) ∧ Below w.heap.size w w') := fun w => by
    have := l04Nonce_any (16 + P) V (by omega) (by omega) w
    rw [show ((16 + P : Nat) : Int) = 16 + (P : Int) from by omega] at this
    exact this
  have p0 : (P : Int) < 16 := by omega
  have p1 : (0 : Int) ≤ (P : Int) := by omega
  obtain ⟨TT, ok, hOB, hcs⟩ : ∃ (TT : ByteArray) (ok : Bool), (∀ (xb xc b c : Nat) (w : World), t.size ≤ c → Code8 w (some ⟨xb, 0, none⟩) 5 pieceX → Code8 w (some ⟨b, 0, none⟩) t.size (strB t) → Calls Tryd.prog 28 #[.string k, .string (pcNon P V), .slice (some ⟨xb, 0, none⟩) 5 xc, .slice (some ⟨b, 0, none⟩) t.size c] w fun e w' => RetOs w' e TT ok ∧ Below w.heap.size w w') ∧ ((ok = true ∧ (1 ≤ TT.size ∧ TT.size ≤ 64) ∧ TT = T ∧ r = true) ∨ (¬ (ok = true ∧ (1 ≤ TT.size ∧ TT.size ≤ 64)) ∧ r = false)) := by
    by_cases h16 : t.size < 16
    · refine ⟨⟨#[]⟩, false, fun xb xc b c w hcc h1 h2 => (l04Open_short k (pcNon P V) _ _ 5 xc t.size c h16 w).mono ?_, ?_⟩
      · rintro e w' ⟨⟨g, rfl⟩, hb⟩
        exact ⟨⟨_, 0, 0, rfl, rfl, fun u _ => convNone _ _ u⟩, hb⟩
      · refine .inr ⟨fun q => (by cases q.1), ?_⟩
        rcases hA with ⟨_, n, hn, _⟩ | ⟨rfl, _⟩
        · omega
        · rfl
    · obtain ⟨n, hn⟩ : ∃ n, t.size = n + 16 := ⟨t.size - 16, by omega⟩
      by_cases ho : pcOk k P V n t = true
      · refine ⟨pcOpn k P V n t, true, fun xb xc b c w hcc h1 h2 => ?_, ?_⟩
        · have := l04Open_any k (pcNon P V) xb 0 5 xc b n c pieceX (strB t) hk (kstr_size _ _ _) (by omega) (by omega) (by omega) pieceX_lt (strB_lt _) w h1 (by rw [← hn]; exact h2)
          rw [← hn] at this
          refine this.mono ?_
          rintro e w' ⟨hr, hb⟩
          have hr2 : RetB2 w w' e n (streamF k (pcNon P V) (strB t)) (.bool true) := by
            unfold RetOpenS at hr
            rwa [if_pos (show okT k (pcNon P V) 5 pieceX n (strB t) = true from ho)] at hr
          obtain ⟨b2, c2, _, rfl, ho2⟩ := hr2
          exact ⟨⟨_, n, c2, rfl, (kstr_size _ _ _).symm, fun u hu => kstr_of_code (ho2.code.below hu)⟩, hb⟩
        · have es : (pcOpn k P V n t).size = n := kstr_size _ _ _
          rw [es]
          rcases hA with ⟨rfl, m, hm, h2, h3, h4⟩ | ⟨rfl, h1⟩
          · obtain rfl : m = n := by omega
            exact .inl ⟨rfl, h3, h4.symm, rfl⟩
          · exact .inr ⟨fun q => h1 _ ⟨n, hn, ho, q.2, rfl⟩, rfl⟩
      · refine ⟨⟨#[]⟩, false, fun xb xc b c w hcc h1 h2 => ?_, ?_⟩
        · have := l04Open_any k (pcNon P V) xb 0 5 xc b n c pieceX (strB t) hk (kstr_size _ _ _) (by omega) (by omega) (by omega) pieceX_lt (strB_lt _) w h1 (by rw [← hn]; exact h2)
          rw [← hn] at this
          refine this.mono ?_
          rintro e w' ⟨hr, hb⟩
          unfold RetOpenS at hr
          rw [if_neg (show ¬ okT k (pcNon P V) 5 pieceX n (strB t) = true from ho)] at hr
          obtain ⟨a9, c9, rfl⟩ := hr
          exact ⟨⟨a9, 0, c9, rfl, rfl, fun u _ => convNone _ _ u⟩, hb⟩
        · refine .inr ⟨fun q => (by cases q.1), ?_⟩
          rcases hA with ⟨_, m, hm, h2, _⟩ | ⟨rfl, _⟩
          · obtain rfl : m = n := by omega
            exact absurd h2 ho
          · rfl
  have OY : Hid (∀ (xb xc b c : Nat) (w : World), t.size ≤ c → Code8 w (some ⟨xb, 0, none⟩) 5 pieceX → Code8 w (some ⟨b, 0, none⟩) t.size (strB t) → Calls Tryd.prog 28 #[.string k, .string (pcNon P V), .slice (some ⟨xb, 0, none⟩) 5 xc, .slice (some ⟨b, 0, none⟩) t.size c] w fun e w' => RetOs w' e TT ok ∧ Below w.heap.size w w') := hOB
  have HCS : Hid ((ok = true ∧ (1 ≤ TT.size ∧ TT.size ≤ 64) ∧ TT = T ∧ r = true) ∨ (¬ (ok = true ∧ (1 ≤ TT.size ∧ TT.size ≤ 64)) ∧ r = false)) := hcs
  have HRT : Hid (OpX (.returned (.tuple #[.string TT, .bool r])) r T) := ⟨TT, rfl, fun q => by
    rcases HCS.out with ⟨_, _, h, _⟩ | ⟨_, h⟩
    · exact h
    · rw [q] at h; cases h⟩
  clear hA hOB hcs htz hk hP hV
  generalize pcNon P V = NN at *
  go_enter Tryd.func16, Tryd.ntmps16
  go_wp2_with fail
  refine (NO.out _).mono ?_
  rintro e v2 ⟨rfl, hb⟩
  have A1 : Hid (Below w.heap.size w v2) := hb
  clear hb NO
  have hcv1 : (convert 30 30 (.slice (some ⟨v2.heap.size, 0, none⟩) 5 5)).run Tryd.prog (v2.alloc (.cells #[.int .u8 112, .int .u8 105, .int .u8 101, .int .u8 99, .int .u8 101] 5)) = .ok (.slice (some ⟨v2.heap.size, 0, none⟩) 5 5) (v2.alloc (.cells #[.int .u8 112, .int .u8 105, .int .u8 101, .int .u8 99, .int .u8 101] 5 (5, 6))) := conv_rowS v2 #[.int .u8 112, .int .u8 105, .int .u8 101, .int .u8 99, .int .u8 101] 5 5
  have hbA : Below v2.heap.size v2 (v2.alloc (.cells #[.int .u8 112, .int .u8 105, .int .u8 101, .int .u8 99, .int .u8 101] 5 (5, 6))) := (Below.refl _ _).alloc (Nat.le_refl _) _
  have X3 : Hid (Code8 (v2.alloc (.cells #[.int .u8 112, .int .u8 105, .int .u8 101, .int .u8 99, .int .u8 101] 5 (5, 6))) (some ⟨v2.heap.size, 0, none⟩) 5 pieceX) := piece_code v2
  replace A1 : Hid (Below w.heap.size w (v2.alloc (.cells #[.int .u8 112, .int .u8 105, .int .u8 101, .int .u8 99, .int .u8 101] 5 (5, 6)))) := A1.out.trans (hbA.mono A1.out.size)
  clear hbA
  generalize (v2.alloc (.cells #[.int .u8 112, .int .u8 105, .int .u8 101, .int .u8 99, .int .u8 101] 5 (5, 6))) = v3 at *
  obtain ⟨v4, c4, hcv, hk4, hb4, hgc4⟩ := bytesOfM t v3
  have X4 : Hid (Code8 v4 (some ⟨v2.heap.size, 0, none⟩) 5 pieceX) := X3.out.below hb4
  have K4 : Hid (Code8 v4 (some ⟨v3.heap.size, 0, none⟩) t.size (strB t)) := hk4
  have B4 : Hid (Below w.heap.size w v4) := A1.out.trans (hb4.mono A1.out.size)
  have G4 : Hid (t.size ≤ c4) := hgc4
  clear hk4 hb4 X3 A1 hgc4
  go_wp2_with fail
  refine (OY.out _ _ _ _ _ G4.out X4.out K4.out).mono ?_
  rintro e v5 ⟨⟨a5, n5, c5, rfl, hn5, hcv5⟩, hb⟩
  have B5 : Hid (Below w.heap.size w v5) := B4.out.trans (hb.mono B4.out.size)
  have CV5 : Hid (∀ u, Below v5.heap.size v5 u → (convert 30 9 (.slice a5 n5 c5)).run Tryd.prog u = .ok (.string TT) u) := hcv5
  have HN5 : Hid (n5 = TT.size) := hn5
  clear hb hcv hcv1 hcv5 X4 K4 B4 OY G4 hn5
  cases ok with
  | false =>
    obtain rfl : r = false := by
      rcases HCS.out with ⟨q, _⟩ | ⟨_, q⟩
      · cases q
      · exact q
    clear HCS
    go_wp2_with fail
    have H : Below v5.heap.size v5 v5.drew := (Below.refl _ _).drew
    refine wp_region_noPanic ?_
    refine wp_region_held_drew (S := fun w' => Below v5.heap.size v5 w') (by kernel_rfl) H (fun _ => ?_)
    generalize v5.drew = x0 at *
    refine wpAnyH_take (i := 0) (v := .slice a5 n5 c5) rfl (by kernel_rfl) (by kernel_rfl) (by kernel_rfl) (fun _ _ _ h => h) (Or.inl ⟨by rfl, ?_⟩) H ?_
    · intro w' hSw; clear hSw; go_simp
    change wpAnyH _ _ _ _ _ _ _ { tmps := #[_, _, _, _, _, _, _, _, _, _, _, _, _, _, _, _, _, _, _, _, _, _, _, _, _, _, _, _, _, _, _, _, _], defers := _ } _
    refine wpAnyH_take (i := 1) (v := .string TT) rfl (by kernel_rfl) (by kernel_rfl) (by kernel_rfl) (fun _ _ _ h => h) (Or.inl ⟨by rfl, ?_⟩) H ?_
    · intro w' hSw; have q0 := CV5.out _ hSw; clear hSw; go_simp
    change wpAnyH _ _ _ _ _ _ _ { tmps := #[_, _, _, _, _, _, _, _, _, _, _, _, _, _, _, _, _, _, _, _, _, _, _, _, _, _, _, _, _, _, _, _, _], defers := _ } _
    refine wpAnyH_take (i := 2) (v := .bool false) rfl (by kernel_rfl) (by kernel_rfl) (by kernel_rfl) (fun _ _ _ h => h) (Or.inl ⟨by rfl, ?_⟩) H ?_
    · intro w' hSw; clear hSw; go_simp
    change wpAnyH _ _ _ _ _ _ _ { tmps := #[_, _, _, _, _, _, _, _, _, _, _, _, _, _, _, _, _, _, _, _, _, _, _, _, _, _, _, _, _, _, _, _, _], defers := _ } _
    refine wpAnyH_take (i := 3) (v := .bool false) rfl (by kernel_rfl) (by kernel_rfl) (by kernel_rfl) (fun _ _ _ h => h) (Or.inl ⟨by rfl, ?_⟩) H ?_
    · intro w' hSw; clear hSw; go_simp
    change wpAnyH _ _ _ _ _ _ _ { tmps := #[_, _, _, _, _, _, _, _, _, _, _, _, _, _, _, _, _, _, _, _, _, _, _, _, _, _, _, _, _, _, _, _, _], defers := _ } _
    refine wpAnyH_take (i := 4) (v := undef) rfl (by kernel_rfl) (by kernel_rfl) (by kernel_rfl) (fun _ _ _ h => h) (Or.inr ⟨by rfl, rfl⟩) H ?_
    change wpAnyH _ _ _ _ _ _ _ { tmps := #[_, _, _, _, _, _, _, _, _, _, _, _, _, _, _, _, _, _, _, _, _, _, _, _, _, _, _, _, _, _, _, _, _], defers := _ } _
    refine wpAnyH_take (i := 5) (v := undef) rfl (by kernel_rfl) (by kernel_rfl) (by kernel_rfl) (fun _ _ _ h => h) (Or.inr ⟨by rfl, rfl⟩) H ?_
    change wpAnyH _ _ _ _ _ _ _ { tmps := #[_, _, _, _, _, _, _, _, _, _, _, _, _, _, _, _, _, _, _, _, _, _, _, _, _, _, _, _, _, _, _, _, _], defers := _ } _
    refine wpAnyH_take (i := 6) (v := undef) rfl (by kernel_rfl) (by kernel_rfl) (by kernel_rfl) (fun _ _ _ h => h) (Or.inr ⟨by rfl, rfl⟩) H ?_
    change wpAnyH _ _ _ _ _ _ _ { tmps := #[_, _, _, _, _, _, _, _, _, _, _, _, _, _, _, _, _, _, _, _, _, _, _, _, _, _, _, _, _, _, _, _, _], defers := _ } _
    refine wpAnyH_take (i := 7) (v := .bool false) rfl (by kernel_rfl) (by kernel_rfl) (by kernel_rfl) (fun _ _ _ h => h) (Or.inl ⟨by rfl, ?_⟩) H ?_
    · intro w' hSw; clear hSw; go_simp
    change wpAnyH _ _ _ _ _ _ _ { tmps := #[_, _, _, _, _, _, _, _, _, _, _, _, _, _, _, _, _, _, _, _, _, _, _, _, _, _, _, _, _, _, _, _, _], defers := _ } _
    refine wpAnyH_take (i := 8) (v := .string TT) rfl (by kernel_rfl) (by kernel_rfl) (by kernel_rfl) (fun _ _ _ h => h) (Or.inl ⟨by rfl, ?_⟩) H ?_
    · intro w' hSw; clear hSw; go_simp
    change wpAnyH _ _ _ _ _ _ _ { tmps := #[_, _, _, _, _, _, _, _, _, _, _, _, _, _, _, _, _, _, _, _, _, _, _, _, _, _, _, _, _, _, _, _, _], defers := _ } _
    refine wpAnyH_take (i := 9) (v := .bool false) rfl (by kernel_rfl) (by kernel_rfl) (by kernel_rfl) (fun _ _ _ h => h) (Or.inl ⟨by rfl, ?_⟩) H ?_
    · intro w' hSw; clear hSw; go_simp
    change wpAnyH _ _ _ _ _ _ _ { tmps := #[_, _, _, _, _, _, _, _, _, _, _, _, _, _, _, _, _, _, _, _, _, _, _, _, _, _, _, _, _, _, _, _, _], defers := _ } _
    refine wpAnyH_done (by kernel_rfl) ?_ _
    refine NoPanic.normal ?_
    have B6 : Hid (Below w.heap.size w x0) := B5.out.trans (H.mono B5.out.size)
    clear H
    go_wp2
    exact bodyPost_ret (results_tmp2 Tryd.results16 _ _ _) rfl ⟨HRT.out, B6.out⟩
  | true =>
    by_cases hz : 1 ≤ TT.size ∧ TT.size ≤ 64
    · have IN : Hid (∀ w : World, Calls Tryd.prog 10 #[.int .i64 (n5 : Int), .int .i64 1, .int .i64 64] w fun e w' => e = .returned (.bool true) ∧ Below w.heap.size w w') := fun w => (in_any n5 1 64 true (by have := HN5.out; simp; omega) w).mono fun _ _ q => ⟨q.1, by rw [← q.2]; exact Below.refl _ _⟩
      obtain rfl : r = true := by
        rcases HCS.out with ⟨_, _, _, q⟩ | ⟨q, _⟩
        · exact q
        · exact absurd ⟨rfl, hz⟩ q
      clear HCS hz
      go_wp2_with fail
      have H : Below v5.heap.size v5 v5.drew := (Below.refl _ _).drew
      refine wp_region_noPanic ?_
      refine wp_region_held_drew (S := fun w' => Below v5.heap.size v5 w') (by kernel_rfl) H (fun _ => ?_)
      generalize v5.drew = x0 at *
      refine wpAnyH_take (i := 0) (v := .slice a5 n5 c5) rfl (by kernel_rfl) (by kernel_rfl) (by kernel_rfl) (fun _ _ _ h => h) (Or.inl ⟨by rfl, ?_⟩) H ?_
      · intro w' hSw; clear hSw; go_simp
      change wpAnyH _ _ _ _ _ _ _ { tmps := #[_, _, _, _, _, _, _, _, _, _, _, _, _, _, _, _, _, _, _, _, _, _, _, _, _, _, _, _, _, _, _, _, _], defers := _ } _
      refine wpAnyH_take (i := 1) (v := .string TT) rfl (by kernel_rfl) (by kernel_rfl) (by kernel_rfl) (fun _ _ _ h => h) (Or.inl ⟨by rfl, ?_⟩) H ?_
      · intro w' hSw; have q0 := CV5.out _ hSw; clear hSw; go_simp
      change wpAnyH _ _ _ _ _ _ _ { tmps := #[_, _, _, _, _, _, _, _, _, _, _, _, _, _, _, _, _, _, _, _, _, _, _, _, _, _, _, _, _, _, _, _, _], defers := _ } _
      refine wpAnyH_take (i := 2) (v := .bool true) rfl (by kernel_rfl) (by kernel_rfl) (by kernel_rfl) (fun _ _ _ h => h) (Or.inl ⟨by rfl, ?_⟩) H ?_
      · intro w' hSw; clear hSw; go_simp
      change wpAnyH _ _ _ _ _ _ _ { tmps := #[_, _, _, _, _, _, _, _, _, _, _, _, _, _, _, _, _, _, _, _, _, _, _, _, _, _, _, _, _, _, _, _, _], defers := _ } _
      refine wpAnyH_take (i := 3) (v := .bool true) rfl (by kernel_rfl) (by kernel_rfl) (by kernel_rfl) (fun _ _ _ h => h) (Or.inl ⟨by rfl, ?_⟩) H ?_
      · intro w' hSw; clear hSw; go_simp
      change wpAnyH _ _ _ _ _ _ _ { tmps := #[_, _, _, _, _, _, _, _, _, _, _, _, _, _, _, _, _, _, _, _, _, _, _, _, _, _, _, _, _, _, _, _, _], defers := _ } _
      refine wpAnyH_take (i := 4) (v := .slice a5 n5 c5) rfl (by kernel_rfl) (by kernel_rfl) (by kernel_rfl) (fun _ _ _ h => h) (Or.inl ⟨by rfl, ?_⟩) H ?_
      · intro w' hSw; clear hSw; go_simp
      change wpAnyH _ _ _ _ _ _ _ { tmps := #[_, _, _, _, _, _, _, _, _, _, _, _, _, _, _, _, _, _, _, _, _, _, _, _, _, _, _, _, _, _, _, _, _], defers := _ } _
      refine wpAnyH_take (i := 5) (v := .int .i64 (n5 : Int)) rfl (by kernel_rfl) (by kernel_rfl) (by kernel_rfl) (fun _ _ _ h => h) (Or.inl ⟨by rfl, ?_⟩) H ?_
      · intro w' hSw; clear hSw; go_simp
      change wpAnyH _ _ _ _ _ _ _ { tmps := #[_, _, _, _, _, _, _, _, _, _, _, _, _, _, _, _, _, _, _, _, _, _, _, _, _, _, _, _, _, _, _, _, _], defers := _ } _
      refine wpAnyH_ready (rs := [6]) (by kernel_rfl) (by simp) ?_
      refine AllReadyH.cons rfl (fun KK hK => ?_) AllReadyH.nil
      go_simp
      refine (IN.out _).mono ?_
      rintro e x1 ⟨rfl, hb⟩
      replace H : Below v5.heap.size v5 x1 := H.trans (hb.mono H.size)
      clear hb
      refine hK.out _ _ H (fun _ => ?_)
      clear hK KK
      change wpAnyH _ _ _ _ _ _ _ { tmps := #[_, _, _, _, _, _, _, _, _, _, _, _, _, _, _, _, _, _, _, _, _, _, _, _, _, _, _, _, _, _, _, _, _], defers := _ } _
      refine wpAnyH_take (i := 7) (v := .bool true) rfl (by kernel_rfl) (by kernel_rfl) (by kernel_rfl) (fun _ _ _ h => h) (Or.inl ⟨by rfl, ?_⟩) H ?_
      · intro w' hSw; clear hSw; go_simp
      change wpAnyH _ _ _ _ _ _ _ { tmps := #[_, _, _, _, _, _, _, _, _, _, _, _, _, _, _, _, _, _, _, _, _, _, _, _, _, _, _, _, _, _, _, _, _], defers := _ } _
      refine wpAnyH_take (i := 8) (v := .string TT) rfl (by kernel_rfl) (by kernel_rfl) (by kernel_rfl) (fun _ _ _ h => h) (Or.inl ⟨by rfl, ?_⟩) H ?_
      · intro w' hSw; clear hSw; go_simp
      change wpAnyH _ _ _ _ _ _ _ { tmps := #[_, _, _, _, _, _, _, _, _, _, _, _, _, _, _, _, _, _, _, _, _, _, _, _, _, _, _, _, _, _, _, _, _], defers := _ } _
      refine wpAnyH_take (i := 9) (v := .bool true) rfl (by kernel_rfl) (by kernel_rfl) (by kernel_rfl) (fun _ _ _ h => h) (Or.inl ⟨by rfl, ?_⟩) H ?_
      · intro w' hSw; clear hSw; go_simp
      change wpAnyH _ _ _ _ _ _ _ { tmps := #[_, _, _, _, _, _, _, _, _, _, _, _, _, _, _, _, _, _, _, _, _, _, _, _, _, _, _, _, _, _, _, _, _], defers := _ } _
      refine wpAnyH_done (by kernel_rfl) ?_ _
      refine NoPanic.normal ?_
      have B6 : Hid (Below w.heap.size w x1) := B5.out.trans (H.mono B5.out.size)
      clear H
      go_wp2
      exact bodyPost_ret (results_tmp2 Tryd.results16 _ _ _) rfl ⟨HRT.out, B6.out⟩
    · have IN : Hid (∀ w : World, Calls Tryd.prog 10 #[.int .i64 (n5 : Int), .int .i64 1, .int .i64 64] w fun e w' => e = .returned (.bool false) ∧ Below w.heap.size w w') := fun w => (in_any n5 1 64 false (by have := HN5.out; simp; omega) w).mono fun _ _ q => ⟨q.1, by rw [← q.2]; exact Below.refl _ _⟩
      obtain rfl : r = false := by
        rcases HCS.out with ⟨_, q, _⟩ | ⟨_, q⟩
        · exact absurd q hz
        · exact q
      clear HCS hz
      go_wp2_with fail
      have H : Below v5.heap.size v5 v5.drew := (Below.refl _ _).drew
      refine wp_region_noPanic ?_
      refine wp_region_held_drew (S := fun w' => Below v5.heap.size v5 w') (by kernel_rfl) H (fun _ => ?_)
      generalize v5.drew = x0 at *
      refine wpAnyH_take (i := 0) (v := .slice a5 n5 c5) rfl (by kernel_rfl) (by kernel_rfl) (by kernel_rfl) (fun _ _ _ h => h) (Or.inl ⟨by rfl, ?_⟩) H ?_
      · intro w' hSw; clear hSw; go_simp
      change wpAnyH _ _ _ _ _ _ _ { tmps := #[_, _, _, _, _, _, _, _, _, _, _, _, _, _, _, _, _, _, _, _, _, _, _, _, _, _, _, _, _, _, _, _, _], defers := _ } _
      refine wpAnyH_take (i := 1) (v := .string TT) rfl (by kernel_rfl) (by kernel_rfl) (by kernel_rfl) (fun _ _ _ h => h) (Or.inl ⟨by rfl, ?_⟩) H ?_
      · intro w' hSw; have q0 := CV5.out _ hSw; clear hSw; go_simp
      change wpAnyH _ _ _ _ _ _ _ { tmps := #[_, _, _, _, _, _, _, _, _, _, _, _, _, _, _, _, _, _, _, _, _, _, _, _, _, _, _, _, _, _, _, _, _], defers := _ } _
      refine wpAnyH_take (i := 2) (v := .bool true) rfl (by kernel_rfl) (by kernel_rfl) (by kernel_rfl) (fun _ _ _ h => h) (Or.inl ⟨by rfl, ?_⟩) H ?_
      · intro w' hSw; clear hSw; go_simp
      change wpAnyH _ _ _ _ _ _ _ { tmps := #[_, _, _, _, _, _, _, _, _, _, _, _, _, _, _, _, _, _, _, _, _, _, _, _, _, _, _, _, _, _, _, _, _], defers := _ } _
      refine wpAnyH_take (i := 3) (v := .bool true) rfl (by kernel_rfl) (by kernel_rfl) (by kernel_rfl) (fun _ _ _ h => h) (Or.inl ⟨by rfl, ?_⟩) H ?_
      · intro w' hSw; clear hSw; go_simp
      change wpAnyH _ _ _ _ _ _ _ { tmps := #[_, _, _, _, _, _, _, _, _, _, _, _, _, _, _, _, _, _, _, _, _, _, _, _, _, _, _, _, _, _, _, _, _], defers := _ } _
      refine wpAnyH_take (i := 4) (v := .slice a5 n5 c5) rfl (by kernel_rfl) (by kernel_rfl) (by kernel_rfl) (fun _ _ _ h => h) (Or.inl ⟨by rfl, ?_⟩) H ?_
      · intro w' hSw; clear hSw; go_simp
      change wpAnyH _ _ _ _ _ _ _ { tmps := #[_, _, _, _, _, _, _, _, _, _, _, _, _, _, _, _, _, _, _, _, _, _, _, _, _, _, _, _, _, _, _, _, _], defers := _ } _
      refine wpAnyH_take (i := 5) (v := .int .i64 (n5 : Int)) rfl (by kernel_rfl) (by kernel_rfl) (by kernel_rfl) (fun _ _ _ h => h) (Or.inl ⟨by rfl, ?_⟩) H ?_
      · intro w' hSw; clear hSw; go_simp
      change wpAnyH _ _ _ _ _ _ _ { tmps := #[_, _, _, _, _, _, _, _, _, _, _, _, _, _, _, _, _, _, _, _, _, _, _, _, _, _, _, _, _, _, _, _, _], defers := _ } _
      refine wpAnyH_ready (rs := [6]) (by kernel_rfl) (by simp) ?_
      refine AllReadyH.cons rfl (fun KK hK => ?_) AllReadyH.nil
      go_simp
      refine (IN.out _).mono ?_
      rintro e x1 ⟨rfl, hb⟩
      replace H : Below v5.heap.size v5 x1 := H.trans (hb.mono H.size)
      clear hb
      refine hK.out _ _ H (fun _ => ?_)
      clear hK KK
      change wpAnyH _ _ _ _ _ _ _ { tmps := #[_, _, _, _, _, _, _, _, _, _, _, _, _, _, _, _, _, _, _, _, _, _, _, _, _, _, _, _, _, _, _, _, _], defers := _ } _
      refine wpAnyH_take (i := 7) (v := .bool false) rfl (by kernel_rfl) (by kernel_rfl) (by kernel_rfl) (fun _ _ _ h => h) (Or.inl ⟨by rfl, ?_⟩) H ?_
      · intro w' hSw; clear hSw; go_simp
      change wpAnyH _ _ _ _ _ _ _ { tmps := #[_, _, _, _, _, _, _, _, _, _, _, _, _, _, _, _, _, _, _, _, _, _, _, _, _, _, _, _, _, _, _, _, _], defers := _ } _
      refine wpAnyH_take (i := 8) (v := .string TT) rfl (by kernel_rfl) (by kernel_rfl) (by kernel_rfl) (fun _ _ _ h => h) (Or.inl ⟨by rfl, ?_⟩) H ?_
      · intro w' hSw; clear hSw; go_simp
      change wpAnyH _ _ _ _ _ _ _ { tmps := #[_, _, _, _, _, _, _, _, _, _, _, _, _, _, _, _, _, _, _, _, _, _, _, _, _, _, _, _, _, _, _, _, _], defers := _ } _
      refine wpAnyH_take (i := 9) (v := .bool false) rfl (by kernel_rfl) (by kernel_rfl) (by kernel_rfl) (fun _ _ _ h => h) (Or.inl ⟨by rfl, ?_⟩) H ?_
      · intro w' hSw; clear hSw; go_simp
      change wpAnyH _ _ _ _ _ _ _ { tmps := #[_, _, _, _, _, _, _, _, _, _, _, _, _, _, _, _, _, _, _, _, _, _, _, _, _, _, _, _, _, _, _, _, _], defers := _ } _
      refine wpAnyH_done (by kernel_rfl) ?_ _
      refine NoPanic.normal ?_
      have B6 : Hid (Below w.heap.size w x1) := B5.out.trans (H.mono B5.out.size)
      clear H
      go_wp2
      exact bodyPost_ret (results_tmp2 Tryd.results16 _ _ _) rfl ⟨HRT.out, B6.out⟩
set_option maxRecDepth 100000 in
set_option maxHeartbeats 4000000 in
theorem specOpenP_any (k : ByteArray) (p v : Int) (t T : ByteArray) (c : Int) (hA : OpIs k p v t T c) (w : World) :
    Calls Tryd.prog 7 #[.string k, .int .i64 p, .int .i64 v, .string t] w fun e w' => e = .returned (.tuple #[.string T, .int .i64 c]) ∧ Below w.heap.size w w' := by
  by_cases hkz : 65536 < k.size
  · obtain ⟨rfl, rfl⟩ : c = 2 ∧ T = ⟨#[]⟩ := by
      rcases hA with ⟨h, hc, rfl⟩ | ⟨h, _⟩ | ⟨h, _⟩
      · rcases h with ⟨rfl, _⟩ | ⟨_, h1, _⟩ | ⟨_, _, h3, _⟩ | ⟨_, _, h3, _⟩
        · exact ⟨rfl, rfl⟩
        · exact absurd hkz h1
        · omega
        · omega
      · have := h.zero.2.1; omega
      · have := h.zero.2.1; omega
    have k0 : (65536 : Int) < (k.size : Int) := by omega
    clear hA
    go_enter Tryd.func7, Tryd.ntmps7
    go_wp2
    exact bodyPost_ret (results_tmp2 Tryd.results7 _ _ _) rfl ⟨rfl, Below.refl _ _⟩
  · have k0 : ¬ (65536 : Int) < (k.size : Int) := by omega
    by_cases htz : 65536 < t.size
    · obtain ⟨rfl, rfl⟩ : c = 2 ∧ T = ⟨#[]⟩ := by
        rcases hA with ⟨h, hc, rfl⟩ | ⟨h, _⟩ | ⟨h, _⟩
        · rcases h with ⟨rfl, _⟩ | ⟨_, _, h1, _⟩ | ⟨_, h1, _⟩ | ⟨_, h1, _⟩
          · exact ⟨rfl, rfl⟩
          · exact absurd htz h1
          · exact absurd htz h1
          · exact absurd htz h1
        · exact absurd htz h.zero.1
        · exact absurd htz h.zero.1
      have t0 : (65536 : Int) < (t.size : Int) := by omega
      clear hA
      go_enter Tryd.func7, Tryd.ntmps7
      go_wp2
      exact bodyPost_ret (results_tmp2 Tryd.results7 _ _ _) rfl ⟨rfl, Below.refl _ _⟩
    · have t0 : ¬ (65536 : Int) < (t.size : Int) := by omega
      by_cases hc : PfP k p v t 0
      · have PF : Hid (∀ w : World, Calls Tryd.prog 9 #[.string k, .int .i64 p, .int .i64 v] w fun e w' => e = .returned (.int .i64 0) ∧ w = w') := l12Ask_any k p v t 0 hc hkz htz
        obtain ⟨_, hk, hp, hv⟩ := hc.zero
        obtain ⟨P, rfl⟩ := Int.eq_ofNat_of_zero_le hp.1
        obtain ⟨V, rfl⟩ := Int.eq_ofNat_of_zero_le (show 0 ≤ v by omega)
        obtain ⟨r, hr, hrc⟩ : ∃ r : Bool, ((r = true ∧ OpnIs k P V t T) ∨ (r = false ∧ ∀ T, ¬ OpnIs k P V t T)) ∧ ((r = true ∧ c = 0) ∨ (r = false ∧ c = 10 ∧ T = ⟨#[]⟩)) := by
          rcases hA with ⟨h, hc2, rfl⟩ | ⟨h, h1, h2⟩ | ⟨h, h1, h2⟩
          · have : c = 0 := by
              rcases h with ⟨rfl, h⟩ | ⟨rfl, _, _, h⟩ | ⟨rfl, _, _, h⟩ | ⟨rfl, _⟩
              · rcases h with h | h
                · exact absurd h hkz
                · exact absurd h htz
              · exact absurd hk h
              · exact absurd ⟨hp, hv⟩ h
              · rfl
            exact absurd this hc2
          · exact ⟨false, .inr ⟨rfl, h1⟩, .inr ⟨rfl, h2⟩⟩
          · exact ⟨true, .inl ⟨rfl, h1⟩, .inl ⟨rfl, h2⟩⟩
        have LO : Hid (∀ w : World, Calls Tryd.prog 16 #[.string k, .int .i64 (P : Int), .int .i64 (V : Int), .string t] w fun e w' => OpX e r T ∧ Below w.heap.size w w') := fun w => l12Open_any k P V t hk (by omega) (by omega) htz T r hr w
        clear hA hr hc hk hp hv hkz htz
        go_enter Tryd.func7, Tryd.ntmps7
        go_wp2_with fail
        refine (PF.out _).mono ?_
        rintro e _ ⟨rfl, rfl⟩
        go_wp2_with fail
        refine (LO.out _).mono ?_
        rintro e v2 ⟨⟨X, rfl, hX⟩, hb⟩
        have B2 : Hid (Below w.heap.size w v2) := hb
        clear hb LO PF
        rcases hrc with ⟨rfl, rfl⟩ | ⟨rfl, rfl, rfl⟩
        · obtain rfl := hX rfl
          go_wp2
          exact bodyPost_ret (results_tmp2 Tryd.results7 _ _ _) rfl ⟨rfl, B2.out⟩
        · clear hX
          go_wp2
          exact bodyPost_ret (results_tmp2 Tryd.results7 _ _ _) rfl ⟨rfl, B2.out⟩
      · obtain ⟨h, hc2, rfl⟩ : PfP k p v t c ∧ c ≠ 0 ∧ T = ⟨#[]⟩ := by
          rcases hA with h | ⟨h, _⟩ | ⟨h, _⟩
          · exact h
          · exact absurd h hc
          · exact absurd h hc
        have PF : Hid (∀ w : World, Calls Tryd.prog 9 #[.string k, .int .i64 p, .int .i64 v] w fun e w' => e = .returned (.int .i64 c) ∧ w = w') := l12Ask_any k p v t c h hkz htz
        have e1 : (c != 0) = true := by simp [hc2]
        clear h hc hc2 hkz htz hA
        go_enter Tryd.func7, Tryd.ntmps7
        go_wp2_with fail
        refine (PF.out _).mono ?_
        rintro e _ ⟨rfl, rfl⟩
        go_wp2
        exact bodyPost_ret (results_tmp2 Tryd.results7 _ _ _) rfl ⟨rfl, Below.refl _ _⟩

set_option maxRecDepth 100000 in
theorem law_openPiece (k : ByteArray) (p v : Int) (s : ByteArray) (w : World) (hT : Tabs w) :
    Calls Tryd.prog 4 #[.string k, .int .i64 p, .int .i64 v, .string s] w fun e w' => e = .returned (.bool true) ∧ Below w.heap.size w w' := by
  obtain ⟨T, c, hA⟩ := OpIs.ex k p v s
  have SO : Hid (∀ w : World, Calls Tryd.prog 7 #[.string k, .int .i64 p, .int .i64 v, .string s] w fun e w' => e = .returned (.tuple #[.string T, .int .i64 c]) ∧ Below w.heap.size w w') := fun w => specOpenP_any k p v s T c hA w
  have IY : Hid (∀ w : World, Tabs w → Calls Tryd.prog 8 #[.string k, .int .i64 p, .int .i64 v, .string s] w fun e w' => e = .returned (.tuple #[.string T, .int .i64 c]) ∧ Below w.heap.size w w') := fun w h => implOpenP_any k p v s T c hA w h
  have HT : Hid (Tabs w) := hT
  have cc : (c != c) = false := by simp
  clear hA hT
  by_cases hk : 1048576 < k.size
  · have k0 : (1048576 : Int) < (k.size : Int) := by omega
    go_enter Tryd.func4, Tryd.ntmps4
    go_wp2
    go_ret
    exact ⟨rfl, Below.refl _ _⟩
  · have k0 : ¬ (1048576 : Int) < (k.size : Int) := by omega
    by_cases hs : 1048576 < s.size
    · have s0 : (1048576 : Int) < (s.size : Int) := by omega
      go_enter Tryd.func4, Tryd.ntmps4
      go_wp2
      go_ret
      exact ⟨rfl, Below.refl _ _⟩
    · have s0 : ¬ (1048576 : Int) < (s.size : Int) := by omega
      go_enter Tryd.func4, Tryd.ntmps4
      go_wp2_with fail
      refine (SO.out _).mono ?_
      rintro e w1 ⟨rfl, hb⟩
      have B1 : Hid (Below w.heap.size w w1) := hb
      clear hb SO
      go_wp2_with fail
      refine (IY.out _ (HT.out.below B1.out)).mono ?_
      rintro e w2 ⟨rfl, hb⟩
      have B2 : Hid (Below w.heap.size w w2) := B1.out.trans (hb.mono B1.out.size)
      clear hb IY
      go_wp2
      go_ret
      exact ⟨rfl, B2.out⟩
end Go.Proofs.YtonccbgolbcjfabDoor
