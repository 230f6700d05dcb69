/-
  Texts of the proof, joined: SealMem, SealB.
-/
import Derived.Test.YtiamaoihachhgaaGreatDoorE30
namespace Go.Proofs.YtiamaoihachhgaaGreatDoor
open Go.ChangeShapes Go.WideShapes Go.ChangeAt Go.RowKit
def slA (G : Nat → Nat) (s : ByteArray) (x : Value) : Array Value := ((List.range 66).map (slV G s x)).toArray
theorem slA_size (G : Nat → Nat) (s : ByteArray) (x : Value) : (slA G s x).size = 66 := by simp [slA]
theorem slA_at {G : Nat → Nat} {s : ByteArray} {x : Value} {k : Nat} (h : k < 66) : (slA G s x)[k]? = some (slV G s x k) := by simp [slA, h]
theorem slA_one (G : Nat → Nat) (s : ByteArray) (a : Option Addr) (m c : Nat) : (slA G s (.slice a m c)).all (·.oneCell') = true := all_oneCell_toArray (fun v hv => by
 obtain ⟨i, hi, rfl⟩ := List.mem_map.1 hv
 unfold slV
 split
 ·rfl
 ·split <;> rfl)
theorem Tryz.infoSl : (Tryz.prog.info? 177).map (fun i => (i.zero.map (fun z => (z.cells.size, match z with | .agg _ => true | _ => false)), i.size)) = some (some (66, true), 66) := by kernel_rfl
theorem Tryz.sizeSl : (Tryz.prog.info? 177).map (·.size) = some 66 := by
 have h := Tryz.infoSl
 cases hq : Tryz.prog.info? 177 with
 | none => simp [hq] at h
 | some i => simp [hq] at h ⊢; exact h.2
theorem Tryz.placesSl : (match Tryz.prog.underlying 177 with | some (.struct fs) => fs.toList.mapM (fun f => (Tryz.prog.info? f.type).map fun i => (f.offset, i.size)) | _ => none) = some [(0, 64), (64, 1), (65, 1)] := by kernel_rfl
theorem Tryz.zeroSl : ∃ Z : Array Value, (∀ w, (zeroValue 177).run Tryz.prog w = .ok (.agg Z) w) ∧ Z.size = 66 ∧ (∃ it, Tryz.prog.info? 177 = some it ∧ it.zero = some (.agg Z)) := by
 have h := Tryz.infoSl
 cases hq : Tryz.prog.info? 177 with
 | none => simp [hq] at h
 | some i =>
  simp only [hq, Option.map_some, Option.some.injEq, Prod.mk.injEq] at h
  cases hz : i.zero with
  | none => simp [hz] at h
  | some z =>
   simp only [hz, Option.map_some, Option.some.injEq, Prod.mk.injEq] at h
   cases z with
   | agg Z => exact ⟨Z, fun w => by simp [zeroValue, typeInfo, hq, hz], h.1.1, i, rfl, hz⟩
   | _ => simp at h
theorem structS : ∃ fs, Tryz.prog.underlying 177 = some (.struct fs) ∧ fs.toList.mapM (fun f => (Tryz.prog.info? f.type).map fun i => (f.offset, i.size)) = some [(0, 64), (64, 1), (65, 1)] := by
 have hp := Tryz.placesSl
 generalize Tryz.prog.underlying 177 = u at hp
 match u, hp with
 | some (.struct fs), hp => exact ⟨fs, rfl, hp⟩
theorem laid_sealer (G : Nat → Nat) (s : ByteArray) (x : Value) (Z : Array Value) (hs : Z.size = 66) : laid 65 #[x] (laid 64 #[.string s] (laid 0 (bA 64 G) Z)) = slA G s x := by
 apply Array.ext_getElem?
 intro i
 rw [laid_at, laid_at, laid_at]
 simp only [laid_size, bA_size, hs, show (#[x] : Array Value).size = 1 from rfl, show (#[Value.string s] : Array Value).size = 1 from rfl]
 by_cases hi : i < 66
 ·rw [slA_at hi]
  unfold slV
  by_cases h2 : 65 ≤ i
  ·obtain rfl : i = 65 := by omega
   rw [if_pos (by omega), if_neg (by omega), if_neg (by omega)]
   rfl
  ·rw [if_neg (by omega)]
   by_cases h1 : 64 ≤ i
   ·obtain rfl : i = 64 := by omega
    rw [if_pos (by omega), if_neg (by omega), if_pos rfl]
    rfl
   ·rw [if_neg (by omega), if_pos (by omega), if_pos (by omega), bA_at (by omega), Nat.sub_zero]
 ·rw [if_neg (by omega), if_neg (by omega), if_neg (by omega)]
  rw [Array.getElem?_eq_none (by omega), Array.getElem?_eq_none (by rw [slA_size]; omega)]
theorem built_sealer (G : Nat → Nat) (s : ByteArray) (a : Option Addr) (m c : Nat) : Tryz.prog.built 177 [(0, .agg (bA 64 G)), (1, .string s), (2, .slice a m c)] = some (slA G s (.slice a m c)) := by
 obtain ⟨Z, -, hs, it, hi, hz⟩ := Tryz.zeroSl
 obtain ⟨fs, hu, hp⟩ := structS
 rw [built_struct hi hz hu hp]
 rw [fill_cons (off := 0) (size := 64) _ _ _ (.agg (bA 64 G)) _ rfl (bA_size _ _) (by show 0 + 64 ≤ Z.size; omega)]
 rw [fill_cons (off := 64) (size := 1) _ _ _ _ _ rfl rfl (by rw [laid_size]; show 64 + 1 ≤ Z.size; omega)]
 rw [fill_cons (off := 65) (size := 1) _ _ _ _ _ rfl rfl (by rw [laid_size, laid_size]; show 65 + 1 ≤ Z.size; omega)]
 rw [cells_agg, cells_agg, show (Value.string s).cells = #[.string s] from rfl, show (Value.slice a m c).cells = #[.slice a m c] from rfl, laid_sealer G s _ Z hs]
 rfl
theorem wpList_buildS {P : Program} {ops : Array Oper} {rest : List Oper} {o : Oper} {a : Act} {w : World} {Q : Exit → Act → World → Prop} (hg : o.guard = none) (t : TypeId) (parts : Array (Nat × Operand)) (ho : o.op = .build t parts) (vals : List (Nat × Value)) (hv : (parts.map fun (i, x) => (i, a.eval x)).toList = vals)
  (cells : Array Value) (hf : P.built t vals = some cells) (h : wpList P ops Q rest (a.put o.dst (.agg cells)) w) : wpList P ops Q (o :: rest) a w := by
 refine wpList_build hg t parts ho ?_ ?_
 ·rw [hv, hf]; rfl
 ·rw [hv, hf]; exact h
theorem sealAt_stored (w : World) (Z : Array Value) (hZ : Z.size = 66) (G : Nat → Nat) (s : ByteArray) (x : Value) : SealAt ((w.alloc (.cells Z 177)).setCells w.heap.size 0 (slA G s x).toList) w.heap.size G s x := by
 have h0 : (w.alloc (.cells Z 177)).rowIs w.heap.size 177 66 (fun i => Z.getD i undef) := by
  rw [← hZ]
  exact World.rowIs_alloc w Z 177 _ (fun i hi => by simp [Array.getD, hi])
 refine (rowIs_setCells (slA G s x).toList 0 _ _ h0).congr (fun i hi => ?_)
 have hl : (slA G s x).toList.length = 66 := by rw [Array.length_toList]; exact slA_size _ _ _
 rw [hl, if_pos (by omega), Nat.sub_zero, List.getD_eq_getElem?_getD, Array.getElem?_toList, slA_at hi]
 rfl
theorem sfault_ok (k s : ByteArray) (x y z : Nat) (hk : k.size = 32) (hs : s.size = 12) (hx : x ≤ 65536) (hy : y ≤ z) (w : World) :
  Calls Tryz.prog 106 #[.string k, .string s, .int .i64 (x : Int), .int .i64 (y : Int), .int .i64 (z : Int)] w fun e w' => e = .returned (.int .i64 0) ∧ w = w' := by
 have e1 : ¬ (65536 : Int) < k.size := by omega
 have e2 : ¬ (65536 : Int) < s.size := by omega
 have e3 : ¬ (65536 : Int) < (x : Int) := by omega
 have e4 : ¬ (z : Int) < (y : Int) := by omega
 have e5 : ((k.size : Int) != 32) = false := by rw [hk]; rfl
 have e6 : ((s.size : Int) != 12) = false := by rw [hs]; rfl
 clear hk hs
 go_enter Tryz.func106, Tryz.ntmps106
 go_wp2
 go_ret
 exact ⟨rfl, rfl⟩
end Go.Proofs.YtiamaoihachhgaaGreatDoor
namespace Go.Proofs.YtiamaoihachhgaaGreatDoor
open Go.ChangeShapes Go.WideShapes Go.ChangeAt Go.RowKit
def sealedF (k s : ByteArray) (m : Nat) (fx : Nat → Nat) (n : Nat) (f : Nat → Nat) : Nat → Nat := Sha.cat n (streamF k s f) (strB (tagT k s m fx n (streamF k s f)))
theorem streamF_lt (k s : ByteArray) {f : Nat → Nat} (hf : ∀ i, f i < 256) (i : Nat) : streamF k s f i < 256 := ctrF_lt (Gf.ws_lt (strB_lt _) _) (strB_lt s) hf i
set_option maxRecDepth 100000 in
set_option maxHeartbeats 4000000 in
theorem implSeal_yes (k s : ByteArray) (xb xo m xc b o n c : Nat) (fx f : Nat → Nat) (hk : k.size = 32) (hs : s.size = 12) (hm : m ≤ 65536) (hn : n ≤ 65520) (hfx : ∀ i, fx i < 256) (hf : ∀ i, f i < 256) (w : World) (hx : Code8 w (some ⟨xb, xo, none⟩) m fx) (hc : Code8 w (some ⟨b, o, none⟩) n f) (ht : Tabs w) :
  Calls Tryz.prog 65 #[.string k, .string s, .slice (some ⟨xb, xo, none⟩) m xc, .slice (some ⟨b, o, none⟩) n c] w fun e w' => RetB2 w w' e (n + 16) (sealedF k s m fx n f) (.int .i64 0) ∧ Below w.heap.size w w' := by
 obtain ⟨i0, hi⟩ := info_parts Tryz.info8
 have HI : Hid (Tryz.prog.info? 5 = some i0 ∧ i0.zero = some (.int .u8 0) ∧ i0.size = 1 ∧ i0.bytes = 1) := hi
 obtain ⟨Z, z0, hZ, -⟩ := Tryz.zeroSl
 have FA : Hid (∀ w : World, Calls Tryz.prog 106 #[.string k, .string s, .int .i64 (m : Int), .int .i64 (n : Int), .int .i64 65520] w fun e w' => e = .returned (.int .i64 0) ∧ w = w') := sfault_ok k s m n 65520 hk hs hm (by omega)
 have KO : Hid (∀ w : World, Tabs w → Calls Tryz.prog 107 #[.string k] w fun e w' => e = .returned (.agg (bA 64 (pairF k))) ∧ Below w.heap.size w w') := fun w ht => keysOf_any k hk w ht
 have ST : Hid (∀ (q : Nat) (w : World), SealAt w q (pairF k) s (.slice (some ⟨xb, xo, none⟩) m xc) → Code8 w (some ⟨b, o, none⟩) n f → Calls Tryz.prog 109 #[.pointer (some ⟨q, 0, none⟩), .slice (some ⟨b, o, none⟩) n c] w fun e w' => RetC w w' e n (streamF k s f) ∧ Below w.heap.size w w') := fun q w h hc => streamed_any k s _ q b o n c f hs (by omega) hf w h hc
 have TG : Hid (∀ (q g cg : Nat) (w : World), SealAt w q (pairF k) s (.slice (some ⟨xb, xo, none⟩) m xc) → Code8 w (some ⟨xb, xo, none⟩) m fx → Code8 w (some ⟨g, 0, none⟩) n (streamF k s f) → Tabs w → Calls Tryz.prog 110 #[.pointer (some ⟨q, 0, none⟩), .slice (some ⟨g, 0, none⟩) n cg] w fun e w' => RetM w.heap.size w' e 16 (strB (tagT k s m fx n (streamF k s f))) ∧ Below w.heap.size w w') := fun q g cg w h hx hc ht => tag_any k s q xb xo m xc g 0 n cg fx _ hs hm (by omega) hfx (streamF_lt k s hf) w h hx hc ht
 have BU : Hid (Tryz.prog.built 177 [(0, .agg (bA 64 (pairF k))), (1, .string s), (2, .slice (some ⟨xb, xo, none⟩) m xc)] = some (slA (pairF k) s (.slice (some ⟨xb, xo, none⟩) m xc))) := built_sealer (pairF k) s (some ⟨xb, xo, none⟩) m xc
 have SS : Hid (∀ w : World, SealAt ((w.alloc (.cells Z 177)).setCells w.heap.size 0 (slA (pairF k) s (.slice (some ⟨xb, xo, none⟩) m xc)).toList) w.heap.size (pairF k) s (.slice (some ⟨xb, xo, none⟩) m xc)) := fun w => sealAt_stored w Z hZ _ _ _
 have SO : Hid ((slA (pairF k) s (.slice (some ⟨xb, xo, none⟩) m xc)).all (·.oneCell') = true) := slA_one _ _ _ _ _
 have SN : Hid ((slA (pairF k) s (.slice (some ⟨xb, xo, none⟩) m xc)).size = 66) := slA_size _ _ _
 have TH : Hid (∀ w : World, (w.alloc (.cells Z 177)).there w.heap.size 0 66) := fun w => there_big w Z _ hZ
 have EQ : Hid (sealedF k s m fx n f = fun i => if i < n then streamF k s f i else strB (tagT k s m fx n (streamF k s f)) (i - n)) := rfl
 rw [EQ.out]
 clear EQ
 generalize slA (pairF k) s (.slice (some ⟨xb, xo, none⟩) m xc) = SA at *
 generalize bA 64 (pairF k) = AG at *
 generalize pairF k = G at *
 generalize tagT k s m fx n (streamF k s f) = TT at *
 generalize streamF k s f = F at *
 have HX : Hid (Code8 w (some ⟨xb, xo, none⟩) m fx) := hx
 have HC : Hid (Code8 w (some ⟨b, o, none⟩) n f) := hc
 have HT : Hid (Tabs w) := ht
 clear hx hc ht hfx hf hk hs hi hZ
 go_enter_defers Tryz.func65, Tryz.ntmps65
 go_upto_region 4 with (go_at_call 106; refine (FA.out _).mono ?_; rintro e w' ⟨rfl, rfl⟩)
 refine wp_region_lit ?_
 refine wpList_plain rfl fun K1 hK1 => ?_
 go_simp
 refine hK1 _ _ ?_
 clear hK1 K1
 refine wpList_plain rfl fun K1 hK1 => ?_
 go_simp
 refine (KO.out _ HT.out).mono ?_
 rintro e w1 ⟨rfl, hb1⟩
 refine hK1 _ _ ?_
 clear hK1 K1
 refine wpList_plain rfl fun K1 hK1 => ?_
 go_simp
 refine hK1 _ _ ?_
 clear hK1 K1
 refine wpList_plain rfl fun K1 hK1 => ?_
 go_simp
 refine hK1 _ _ ?_
 clear hK1 K1
 refine wpList_buildS rfl 177 #[(0, .tmp 24), (1, .tmp 25), (2, .tmp 26)] rfl [(0, .agg AG), (1, .string s), (2, .slice (some ⟨xb, xo, none⟩) m xc)] (by simp only [List.map_toArray, List.map_cons, List.map_nil]; rfl) SA BU.out ?_
 refine wpList_plain rfl fun K1 hK1 => ?_
 go_simp
 refine hK1 _ _ ?_
 clear hK1 K1
 have B1 : Hid (Below w.heap.size w w1) := hb1
 have S2 : Hid (SealAt ((w1.alloc (.cells Z 177)).setCells w1.heap.size 0 SA.toList) w1.heap.size G s (.slice (some ⟨xb, xo, none⟩) m xc)) := SS.out w1
 have B2 : Hid (Below w.heap.size w ((w1.alloc (.cells Z 177)).setCells w1.heap.size 0 SA.toList)) := below_setCells B1.out.size _ _ _ (B1.out.alloc B1.out.size _)
 have hq : w.heap.size ≤ w1.heap.size := B1.out.size
 clear hb1 KO FA B1
 refine wpList_store_mid rfl 177 (.tmp 11) (.tmp 27) rfl w1.heap.size 0 SA rfl rfl (by rw [SN.out]; exact TH.out w1) (by rw [SN.out]; exact Tryz.sizeSl) SO.out ?_
 generalize (w1.alloc (.cells Z 177)).setCells w1.heap.size 0 SA.toList = w2 at *
 generalize w1.heap.size = q at *
 clear BU SS SO SN TH z0
 go_wp2_with fail
 refine (ST.out q w2 S2.out (HC.out.below B2.out)).mono ?_
 rintro e w3 ⟨⟨g, cg, ⟨hg, hcg⟩, rfl, ho⟩, hb3⟩
 have S3 : Hid (SealAt w3 q G s (.slice (some ⟨xb, xo, none⟩) m xc)) := S2.out.below hb3
 have B3 : Hid (Below w.heap.size w w3) := B2.out.trans (hb3.mono B2.out.size)
 have O3 : Hid (OwnC cg w3 g n F) := ho
 have hgw : w.heap.size ≤ g := Nat.le_trans B2.out.size hg
 have hgq : q ≠ g := by have := S2.out.lt; omega
 clear ho hb3 hg S2 B2 HC ST
 go_wp2_with fail
 refine (TG.out q g cg w3 S3.out (HX.out.below B3.out) O3.out.code (HT.out.below B3.out)).mono ?_
 rintro e w4 ⟨⟨tg, tc, rfl, htg, hr4⟩, hb4⟩
 have S4 : Hid (SealAt w4 q G s (.slice (some ⟨xb, xo, none⟩) m xc)) := S3.out.below hb4
 have B4 : Hid (Below w.heap.size w w4) := B3.out.trans (hb4.mono B3.out.size)
 have O4 : Hid (w4.ownsRow w.heap.size 5 1 (.slice (some ⟨g, 0, none⟩) n cg) n (bv n F)) := own_of_ownC (O3.out.below hb4) hgw
 have N4 : Hid (∀ j u, (bv 16 (strB TT))[j]? = some u → w4.cell? ((⟨tg, 0, none⟩ : Addr).add j) = some u) := bv_news hr4.code
 have hw4 : w.heap.size ≤ w4.heap.size := B4.out.size
 clear hr4 hb4 htg S3 B3 O3 HX HT TG
 go_wp2_with (at_builtin; refine wpList_append_own _ rfl _ _ 41 rfl w.heap.size 5 i0 (.int .u8 0) 1 1 Tryz.underlying41 HI.out.1 HI.out.2.1 HI.out.2.2.1 HI.out.2.2.2 rfl (by decide) (.slice (some ⟨g, 0, none⟩) n cg) n _ rfl O4.out ⟨tg, 0, none⟩ 16 tc (bv 16 (strB TT)) rfl (by rw [bv_length, Nat.mul_one]) N4.out (bv_one _ _) (by unfold maxLen; omega) (by omega) hw4 ?_)
 intro v' w5 hown hgrow hnil
 have BG : Below w.heap.size w4 w5 := (Below.refl _ w4).grown hgrow hw4 (fun b hb => (O4.out.lt b hb).1)
 have B5 : Hid (Below w.heap.size w w5) := B4.out.trans BG
 have S5 : SealAt w5 q G s (.slice (some ⟨xb, xo, none⟩) m xc) := World.rowIs.of_block S4.out (hgrow.block q S4.out.lt (by intro e; simp [Value.ownBlock] at e; exact hgq e))
 rw [bv_append] at hown
 obtain ⟨g5, c5, hg5, rfl, h8⟩ := own8_of_own hown hnil
 have hne : g5 ≠ q := fun e => by
  obtain ⟨_, _, _, ⟨_, ha, _⟩, _⟩ := h8
  obtain ⟨_, hb, _⟩ := S5
  rw [e, hb] at ha
  simp at ha
 have O5 : Hid (Own8 w5 g5 (n + 16) (fun i => if i < n then F i else strB TT (i - n))) := h8
 have T5 : Hid (w5.there q 0 64) := S5.there
 clear hown hgrow hnil BG h8 S5 S4 B4 O4 N4
 go_wp2
 refine leaves_cons (f := 108) (args := #[.pointer (some ⟨q, 0, none⟩)]) (by simp) (by simp [go_sem]) ?_
 refine (forget_deferred q .returning _ T5.out).mono ?_
 rintro e u' w6 ⟨rfl, rfl, ho⟩
 exact ⟨_, results_tmp2 rfl _ _ _, ⟨g5, c5, hg5, rfl, O5.out.onlyB ho hne⟩, B5.out.trans (ho.toBelow hq B5.out.size)⟩
end Go.Proofs.YtiamaoihachhgaaGreatDoor
