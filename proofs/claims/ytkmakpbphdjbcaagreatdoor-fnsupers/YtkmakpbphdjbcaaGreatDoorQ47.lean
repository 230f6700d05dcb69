/-
  Texts of the proof, joined: SealB.
-/
import Derived.Test.YtkmakpbphdjbcaaGreatDoorQ46
namespace Go.Proofs.YtkmakpbphdjbcaaGreatDoor
open Go.ChangeShapes Go.WideShapes Go.ChangeAt Go.RowKit
def sealedF (k s : ByteArray) (m : Nat) (fx : Nat → Nat) (n : Nat) (f : Nat → Nat) : Nat → Nat := Sha.cat n (streamF k s f) (strB (tagT k s m fx n (streamF k s f)))
theorem streamF_lt (k s : ByteArray) {f : Nat → Nat} (hf : ∀ i, f i < 256) (i : Nat) : streamF k s f i < 256 := ctrF_lt (Gf.ws_lt (strB_lt _) _) (strB_lt s) hf i
set_option maxRecDepth 100000 in
set_option maxHeartbeats 4000000 in
theorem implSeal_yes (k s : ByteArray) (xb xo m xc b o n c : Nat) (fx f : Nat → Nat) (hk : k.size = 32) (hs : s.size = 12) (hm : m ≤ 65536) (hn : n ≤ 65520) (hfx : ∀ i, fx i < 256) (hf : ∀ i, f i < 256) (w : World) (hx : Code8 w (some ⟨xb, xo, none⟩) m fx) (hc : Code8 w (some ⟨b, o, none⟩) n f) (ht : Tabs w) :
    Calls Tryz.prog 34 #[.string k, .string s, .slice (some ⟨xb, xo, none⟩) m xc, .slice (some ⟨b, o, none⟩) n c] w fun e w' => RetB2 w w' e (n + 16) (sealedF k s m fx n f) (.int .i64 0) ∧ Below w.heap.size w w' := by
  obtain ⟨i0, hi⟩ := info_parts Tryz.info8
  have HI : Hid (Tryz.prog.info? 5 = some i0 ∧ i0.zero = some (.int .u8 0) ∧ i0.size = 1 ∧ i0.bytes = 1) := hi
  obtain ⟨Z, z0, hZ, -⟩ := Tryz.zeroSl
  have FA : Hid (∀ w : World, Calls Tryz.prog 53 #[.string k, .string s, .int .i64 (m : Int), .int .i64 (n : Int), .int .i64 65520] w fun e w' => e = .returned (.int .i64 0) ∧ w = w') := sfault_ok k s m n 65520 hk hs hm (by omega)
  have KO : Hid (∀ w : World, Tabs w → Calls Tryz.prog 54 #[.string k] w fun e w' => e = .returned (.agg (bA 64 (pairF k))) ∧ Below w.heap.size w w') := fun w ht => keysOf_any k hk w ht
  have ST : Hid (∀ (q : Nat) (w : World), SealAt w q (pairF k) s (.slice (some ⟨xb, xo, none⟩) m xc) → Code8 w (some ⟨b, o, none⟩) n f → Calls Tryz.prog 56 #[.pointer (some ⟨q, 0, none⟩), .slice (some ⟨b, o, none⟩) n c] w fun e w' => RetC w w' e n (streamF k s f) ∧ Below w.heap.size w w') := fun q w h hc => streamed_any k s _ q b o n c f hs (by omega) hf w h hc
  have TG : Hid (∀ (q g cg : Nat) (w : World), SealAt w q (pairF k) s (.slice (some ⟨xb, xo, none⟩) m xc) → Code8 w (some ⟨xb, xo, none⟩) m fx → Code8 w (some ⟨g, 0, none⟩) n (streamF k s f) → Tabs w → Calls Tryz.prog 57 #[.pointer (some ⟨q, 0, none⟩), .slice (some ⟨g, 0, none⟩) n cg] w fun e w' => RetM w.heap.size w' e 16 (strB (tagT k s m fx n (streamF k s f))) ∧ Below w.heap.size w w') := fun q g cg w h hx hc ht => tag_any k s q xb xo m xc g 0 n cg fx _ hs hm (by omega) hfx (streamF_lt k s hf) w h hx hc ht
  have BU : Hid (Tryz.prog.built 88 [(0, .agg (bA 64 (pairF k))), (1, .string s), (2, .slice (some ⟨xb, xo, none⟩) m xc)] = some (slA (pairF k) s (.slice (some ⟨xb, xo, none⟩) m xc))) := built_sealer (pairF k) s (some ⟨xb, xo, none⟩) m xc
  have SS : Hid (∀ w : World, SealAt ((w.alloc (.cells Z 88)).setCells w.heap.size 0 (slA (pairF k) s (.slice (some ⟨xb, xo, none⟩) m xc)).toList) w.heap.size (pairF k) s (.slice (some ⟨xb, xo, none⟩) m xc)) := fun w => sealAt_stored w Z hZ _ _ _
  have SO : Hid ((slA (pairF k) s (.slice (some ⟨xb, xo, none⟩) m xc)).all (·.oneCell') = true) := slA_one _ _ _ _ _
  have SN : Hid ((slA (pairF k) s (.slice (some ⟨xb, xo, none⟩) m xc)).size = 66) := slA_size _ _ _
  have TH : Hid (∀ w : World, (w.alloc (.cells Z 88)).there w.heap.size 0 66) := fun w => there_big w Z _ hZ
  have EQ : Hid (sealedF k s m fx n f = fun i => if i < n then streamF k s f i else strB (tagT k s m fx n (streamF k s f)) (i - n)) := rfl
  rw [EQ.out]
  clear EQ
  generalize slA (pairF k) s (.slice (some ⟨xb, xo, none⟩) m xc) = SA at *
  generalize bA 64 (pairF k) = AG at *
  generalize pairF k = G at *
  generalize tagT k s m fx n (streamF k s f) = TT at *
  generalize streamF k s f = F at *
  have HX : Hid (Code8 w (some ⟨xb, xo, none⟩) m fx) := hx
  have HC : Hid (Code8 w (some ⟨b, o, none⟩) n f) := hc
  have HT : Hid (Tabs w) := ht
  clear hx hc ht hfx hf hk hs hi hZ
  go_enter_defers Tryz.func34, Tryz.ntmps34
  go_upto_region 4 with (go_at_call 53; refine (FA.out _).mono ?_; rintro e w' ⟨rfl, rfl⟩)
  refine wp_region_lit ?_
  refine wpList_plain rfl fun K1 hK1 => ?_
  go_simp
  refine hK1 _ _ ?_
  clear hK1 K1
  refine wpList_plain rfl fun K1 hK1 => ?_
  go_simp
  refine (KO.out _ HT.out).mono ?_
  rintro e w1 ⟨rfl, hb1⟩
  refine hK1 _ _ ?_
  clear hK1 K1
  refine wpList_plain rfl fun K1 hK1 => ?_
  go_simp
  refine hK1 _ _ ?_
  clear hK1 K1
  refine wpList_plain rfl fun K1 hK1 => ?_
  go_simp
  refine hK1 _ _ ?_
  clear hK1 K1
  refine wpList_buildS rfl 88 #[(0, .tmp 24), (1, .tmp 25), (2, .tmp 26)] rfl [(0, .agg AG), (1, .string s), (2, .slice (some ⟨xb, xo, none⟩) m xc)] (by simp only [List.map_toArray, List.map_cons, List.map_nil]; rfl) SA BU.out ?_
  refine wpList_plain rfl fun K1 hK1 => ?_
  go_simp
  refine hK1 _ _ ?_
  clear hK1 K1
  have B1 : Hid (Below w.heap.size w w1) := hb1
  have S2 : Hid (SealAt ((w1.alloc (.cells Z 88)).setCells w1.heap.size 0 SA.toList) w1.heap.size G s (.slice (some ⟨xb, xo, none⟩) m xc)) := SS.out w1
  have B2 : Hid (Below w.heap.size w ((w1.alloc (.cells Z 88)).setCells w1.heap.size 0 SA.toList)) := below_setCells B1.out.size _ _ _ (B1.out.alloc B1.out.size _)
  have hq : w.heap.size ≤ w1.heap.size := B1.out.size
  clear hb1 KO FA B1
  refine wpList_store_mid rfl 88 (.tmp 11) (.tmp 27) rfl w1.heap.size 0 SA rfl rfl (by rw [SN.out]; exact TH.out w1) (by rw [SN.out]; exact Tryz.sizeSl) SO.out ?_
  generalize (w1.alloc (.cells Z 88)).setCells w1.heap.size 0 SA.toList = w2 at *
  generalize w1.heap.size = q at *
  clear BU SS SO SN TH z0
  go_wp2_with fail
  refine (ST.out q w2 S2.out (HC.out.below B2.out)).mono ?_
  rintro e w3 ⟨⟨g, cg, ⟨hg, hcg⟩, rfl, ho⟩, hb3⟩
  have S3 : Hid (SealAt w3 q G s (.slice (some ⟨xb, xo, none⟩) m xc)) := S2.out.below hb3
  have B3 : Hid (Below w.heap.size w w3) := B2.out.trans (hb3.mono B2.out.size)
  have O3 : Hid (OwnC cg w3 g n F) := ho
  have hgw : w.heap.size ≤ g := Nat.le_trans B2.out.size hg
  have hgq : q ≠ g := by have := S2.out.lt; omega
  clear ho hb3 hg S2 B2 HC ST
  go_wp2_with fail
  refine (TG.out q g cg w3 S3.out (HX.out.below B3.out) O3.out.code (HT.out.below B3.out)).mono ?_
  rintro e w4 ⟨⟨tg, tc, rfl, htg, hr4⟩, hb4⟩
  have S4 : Hid (SealAt w4 q G s (.slice (some ⟨xb, xo, none⟩) m xc)) := S3.out.below hb4
  have B4 : Hid (Below w.heap.size w w4) := B3.out.trans (hb4.mono B3.out.size)
  have O4 : Hid (w4.ownsRow w.heap.size 5 1 (.slice (some ⟨g, 0, none⟩) n cg) n (bv n F)) := own_of_ownC (O3.out.below hb4) hgw
  have N4 : Hid (∀ j u, (bv 16 (strB TT))[j]? = some u → w4.cell? ((⟨tg, 0, none⟩ : Addr).add j) = some u) := bv_news hr4.code
  have hw4 : w.heap.size ≤ w4.heap.size := B4.out.size
  clear hr4 hb4 htg S3 B3 O3 HX HT TG
  go_wp2_with (at_builtin; refine wpList_append_own _ rfl _ _ 22 rfl w.heap.size 5 i0 (.int .u8 0) 1 1 Tryz.underlying22 HI.out.1 HI.out.2.1 HI.out.2.2.1 HI.out.2.2.2 rfl (by decide) (.slice (some ⟨g, 0, none⟩) n cg) n _ rfl O4.out ⟨tg, 0, none⟩ 16 tc (bv 16 (strB TT)) rfl (by rw [bv_length, Nat.mul_one]) N4.out (bv_one _ _) (by unfold maxLen; omega) (by omega) hw4 ?_)
  intro v' w5 hown hgrow hnil
  have BG : Below w.heap.size w4 w5 := (Below.refl _ w4).grown hgrow hw4 (fun b hb => (O4.out.lt b hb).1)
  have B5 : Hid (Below w.heap.size w w5) := B4.out.trans BG
  have S5 : SealAt w5 q G s (.slice (some ⟨xb, xo, none⟩) m xc) := World.rowIs.of_block S4.out (hgrow.block q S4.out.lt (by intro e; simp [Value.ownBlock] at e; exact hgq e))
  rw [bv_append] at hown
  obtain ⟨g5, c5, hg5, rfl, h8⟩ := own8_of_own hown hnil
  have hne : g5 ≠ q := fun e => by
    obtain ⟨_, _, _, ⟨_, ha, _⟩, _⟩ := h8
    obtain ⟨_, hb, _⟩ := S5
    rw [e, hb] at ha
    simp at ha
  have O5 : Hid (Own8 w5 g5 (n + 16) (fun i => if i < n then F i else strB TT (i - n))) := h8
  have T5 : Hid (w5.there q 0 64) := S5.there
  clear hown hgrow hnil BG h8 S5 S4 B4 O4 N4
  go_wp2
  refine leaves_cons (f := 55) (args := #[.pointer (some ⟨q, 0, none⟩)]) (by simp) (by simp [go_sem]) ?_
  refine (forget_deferred q .returning _ T5.out).mono ?_
  rintro e u' w6 ⟨rfl, rfl, ho⟩
  exact ⟨_, results_tmp2 rfl _ _ _, ⟨g5, c5, hg5, rfl, O5.out.onlyB ho hne⟩, B5.out.trans (ho.toBelow hq B5.out.size)⟩
end Go.Proofs.YtkmakpbphdjbcaaGreatDoor
