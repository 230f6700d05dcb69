/-
  A sealer as a value, and as it is laid in memory; what sealFault answers.
-/
import Derived.Test.YtbecnaabmlkjjabDoorJ23
import Derived.Test.YtbecnaabmlkjjabDoorRows
import Derived.WalkKit
import Derived.ProofKit
import Derived.Below
import Derived.WalkSmall
import Derived.Test.YtbecnaabmlkjjabDoorJ11
import Derived.Test.YtbecnaabmlkjjabDoorJ12
import Derived.Deep.Cut
import Derived.Deep.CutRange
import Derived.Deep.DeepCutAuto
import Derived.BigRegion
import Derived.Test.YtbecnaabmlkjjabDoorJ05
namespace Go.Proofs.YtbecnaabmlkjjabDoor
open Go.ChangeShapes Go.WideShapes Go.ChangeAt Go.RowKit
def slA (G : Nat → Nat) (s : ByteArray) (x : Value) : Array Value := ((List.range 66).map (slV G s x)).toArray
theorem slA_size (G : Nat → Nat) (s : ByteArray) (x : Value) : (slA G s x).size = 66 := by simp [slA]
theorem slA_at {G : Nat → Nat} {s : ByteArray} {x : Value} {k : Nat} (h : k < 66) : (slA G s x)[k]? = some (slV G s x k) := by simp [slA, h]
theorem slA_one (G : Nat → Nat) (s : ByteArray) (a : Option Addr) (m c : Nat) : (slA G s (.slice a m c)).all (·.oneCell') = true := all_oneCell_toArray (fun v hv => by
  obtain ⟨i, hi, rfl⟩ := List.mem_map.1 hv
  unfold slV
  split
  · rfl
  · split <;> rfl)
theorem Tryd.infoSl : (Tryd.prog.info? 67).map (fun i => (i.zero.map (fun z => (z.cells.size, match z with | .agg _ => true | _ => false)), i.size)) = some (some (66, true), 66) := by kernel_rfl
theorem Tryd.sizeSl : (Tryd.prog.info? 67).map (·.size) = some 66 := by
  have h := Tryd.infoSl
  cases hq : Tryd.prog.info? 67 with
  | none => simp [hq] at h
  | some i => simp [hq] at h ⊢; exact h.2
theorem Tryd.placesSl : (match Tryd.prog.underlying 67 with | some (.struct fs) => fs.toList.mapM (fun f => (Tryd.prog.info? f.type).map fun i => (f.offset, i.size)) | _ => none) = some [(0, 64), (64, 1), (65, 1)] := by kernel_rfl
theorem Tryd.zeroSl : ∃ Z : Array Value, (∀ w, (zeroValue 67).run Tryd.prog w = .ok (.agg Z) w) ∧ Z.size = 66 ∧ (∃ it, Tryd.prog.info? 67 = some it ∧ it.zero = some (.agg Z)) := by
  have h := Tryd.infoSl
  cases hq : Tryd.prog.info? 67 with
  | none => simp [hq] at h
  | some i =>
    simp only [hq, Option.map_some, Option.some.injEq, Prod.mk.injEq] at h
    cases hz : i.zero with
    | none => simp [hz] at h
    | some z =>
      simp only [hz, Option.map_some, Option.some.injEq, Prod.mk.injEq] at h
      cases z with
      | agg Z => exact ⟨Z, fun w => by simp [zeroValue, typeInfo, hq, hz], h.1.1, i, rfl, hz⟩
      | _ => simp at h
theorem structS : ∃ fs, Tryd.prog.underlying 67 = some (.struct fs) ∧ fs.toList.mapM (fun f => (Tryd.prog.info? f.type).map fun i => (f.offset, i.size)) = some [(0, 64), (64, 1), (65, 1)] := by
  have hp := Tryd.placesSl
  generalize Tryd.prog.underlying 67 = u at hp
  match u, hp with
  | some (.struct fs), hp => exact ⟨fs, rfl, hp⟩
theorem laid_sealer (G : Nat → Nat) (s : ByteArray) (x : Value) (Z : Array Value) (hs : Z.size = 66) : laid 65 #[x] (laid 64 #[.string s] (laid 0 (bA 64 G) Z)) = slA G s x := by
  apply Array.ext_getElem?
  intro i
  rw [laid_at, laid_at, laid_at]
  simp only [laid_size, bA_size, hs, show (#[x] : Array Value).size = 1 from rfl, show (#[Value.string s] : Array Value).size = 1 from rfl]
  by_cases hi : i < 66
  · rw [slA_at hi]
    unfold slV
    by_cases h2 : 65 ≤ i
    · obtain rfl : i = 65 := by omega
      rw [if_pos (by omega), if_neg (by omega), if_neg (by omega)]
      rfl
    · rw [if_neg (by omega)]
      by_cases h1 : 64 ≤ i
      · obtain rfl : i = 64 := by omega
        rw [if_pos (by omega), if_neg (by omega), if_pos rfl]
        rfl
      · rw [if_neg (by omega), if_pos (by omega), if_pos (by omega), bA_at (by omega), Nat.sub_zero]
  · rw [if_neg (by omega), if_neg (by omega), if_neg (by omega)]
    rw [Array.getElem?_eq_none (by omega), Array.getElem?_eq_none (by rw [slA_size]; omega)]
theorem built_sealer (G : Nat → Nat) (s : ByteArray) (a : Option Addr) (m c : Nat) : Tryd.prog.built 67 [(0, .agg (bA 64 G)), (1, .string s), (2, .slice a m c)] = some (slA G s (.slice a m c)) := by
  obtain ⟨Z, -, hs, it, hi, hz⟩ := Tryd.zeroSl
  obtain ⟨fs, hu, hp⟩ := structS
  rw [built_struct hi hz hu hp]
  rw [fill_cons (off := 0) (size := 64) _ _ _ (.agg (bA 64 G)) _ rfl (bA_size _ _) (by show 0 + 64 ≤ Z.size; omega)]
  rw [fill_cons (off := 64) (size := 1) _ _ _ _ _ rfl rfl (by rw [laid_size]; show 64 + 1 ≤ Z.size; omega)]
  rw [fill_cons (off := 65) (size := 1) _ _ _ _ _ rfl rfl (by rw [laid_size, laid_size]; show 65 + 1 ≤ Z.size; omega)]
  rw [cells_agg, cells_agg, show (Value.string s).cells = #[.string s] from rfl, show (Value.slice a m c).cells = #[.slice a m c] from rfl, laid_sealer G s _ Z hs]
  rfl
theorem run_sealer (G : Nat → Nat) (s : ByteArray) (a : Option Addr) (m c : Nat) (w : World) : (Instr.build 67 #[(0, .agg (bA 64 G)), (1, .string s), (2, .slice a m c)]).run Tryd.prog w = .ok (.agg (slA G s (.slice a m c))) w :=
  run_build w _ _ _ (built_sealer G s a m c)
theorem wpList_buildS {P : Program} {ops : Array Oper} {rest : List Oper} {o : Oper} {a : Act} {w : World} {Q : Exit → Act → World → Prop} (hg : o.guard = none) (t : TypeId) (parts : Array (Nat × Operand)) (ho : o.op = .build t parts) (vals : List (Nat × Value)) (hv : (parts.map fun (i, x) => (i, a.eval x)).toList = vals)
    (cells : Array Value) (hf : P.built t vals = some cells) (h : wpList P ops Q rest (a.put o.dst (.agg cells)) w) : wpList P ops Q (o :: rest) a w := by
  refine wpList_build hg t parts ho ?_ ?_
  · rw [hv, hf]; rfl
  · rw [hv, hf]; exact h
theorem sealAt_stored (w : World) (Z : Array Value) (hZ : Z.size = 66) (G : Nat → Nat) (s : ByteArray) (x : Value) : SealAt ((w.alloc (.cells Z 67)).setCells w.heap.size 0 (slA G s x).toList) w.heap.size G s x := by
  have h0 : (w.alloc (.cells Z 67)).rowIs w.heap.size 67 66 (fun i => Z.getD i undef) := by
    rw [← hZ]
    exact World.rowIs_alloc w Z 67 _ (fun i hi => by simp [Array.getD, hi])
  refine (rowIs_setCells (slA G s x).toList 0 _ _ h0).congr (fun i hi => ?_)
  have hl : (slA G s x).toList.length = 66 := by rw [Array.length_toList]; exact slA_size _ _ _
  rw [hl, if_pos (by omega), Nat.sub_zero, List.getD_eq_getElem?_getD, Array.getElem?_toList, slA_at hi]
  rfl
theorem sfault_ok (k s : ByteArray) (x y z : Nat) (hk : k.size = 32) (hs : s.size = 12) (hx : x ≤ 65536) (hy : y ≤ z) (w : World) :
    Calls Tryd.prog 38 #[.string k, .string s, .int .i64 (x : Int), .int .i64 (y : Int), .int .i64 (z : Int)] w fun e w' => e = .returned (.int .i64 0) ∧ w = w' := by
  have e1 : ¬ (65536 : Int) < k.size := by omega
  have e2 : ¬ (65536 : Int) < s.size := by omega
  have e3 : ¬ (65536 : Int) < (x : Int) := by omega
  have e4 : ¬ (z : Int) < (y : Int) := by omega
  have e5 : ((k.size : Int) != 32) = false := by rw [hk]; rfl
  have e6 : ((s.size : Int) != 12) = false := by rw [hs]; rfl
  clear hk hs
  go_enter Tryd.func38, Tryd.ntmps38
  go_wp2
  go_ret
  exact ⟨rfl, rfl⟩
theorem sfault_bad (k s : ByteArray) (x y z : Nat) (hk : k.size ≤ 65536) (hs : s.size ≤ 65536) (hx : x ≤ 65536) (hy : y ≤ z) (h : ¬ (k.size = 32 ∧ s.size = 12)) (w : World) :
    Calls Tryd.prog 38 #[.string k, .string s, .int .i64 (x : Int), .int .i64 (y : Int), .int .i64 (z : Int)] w fun e w' => e = .returned (.int .i64 1) ∧ w = w' := by
  have e1 : ¬ (65536 : Int) < k.size := by omega
  have e2 : ¬ (65536 : Int) < s.size := by omega
  have e3 : ¬ (65536 : Int) < (x : Int) := by omega
  have e4 : ¬ (z : Int) < (y : Int) := by omega
  by_cases h1 : k.size = 32
  · have e5 : ((k.size : Int) != 32) = false := by rw [h1]; rfl
    have e6 : ((s.size : Int) != 12) = true := by rw [bne_iff_ne]; omega
    clear h h1
    go_enter Tryd.func38, Tryd.ntmps38
    go_wp2
    go_ret
    exact ⟨rfl, rfl⟩
  · have e5 : ((k.size : Int) != 32) = true := by rw [bne_iff_ne]; omega
    clear h h1
    go_enter Tryd.func38, Tryd.ntmps38
    go_wp2
    go_ret
    exact ⟨rfl, rfl⟩
theorem sfault_long (k s : ByteArray) (x y z : Nat) (h : 65536 < k.size ∨ 65536 < s.size ∨ 65536 < x ∨ z < y) (w : World) :
    Calls Tryd.prog 38 #[.string k, .string s, .int .i64 (x : Int), .int .i64 (y : Int), .int .i64 (z : Int)] w fun e w' => e = .returned (.int .i64 2) ∧ w = w' := by
  by_cases h1 : 65536 < k.size
  · have e1 : (65536 : Int) < k.size := by omega
    clear h h1
    go_enter Tryd.func38, Tryd.ntmps38
    go_wp2
    go_ret
    exact ⟨rfl, rfl⟩
  · have e1 : ¬ (65536 : Int) < k.size := by omega
    by_cases h2 : 65536 < s.size
    · have e2 : (65536 : Int) < s.size := by omega
      clear h h1 h2
      go_enter Tryd.func38, Tryd.ntmps38
      go_wp2
      go_ret
      exact ⟨rfl, rfl⟩
    · have e2 : ¬ (65536 : Int) < s.size := by omega
      by_cases h3 : 65536 < x
      · have e3 : (65536 : Int) < (x : Int) := by omega
        clear h h1 h2 h3
        go_enter Tryd.func38, Tryd.ntmps38
        go_wp2
        go_ret
        exact ⟨rfl, rfl⟩
      · have e3 : ¬ (65536 : Int) < (x : Int) := by omega
        have e4 : (z : Int) < (y : Int) := by omega
        clear h h1 h2 h3
        go_enter Tryd.func38, Tryd.ntmps38
        go_wp2
        go_ret
        exact ⟨rfl, rfl⟩
end Go.Proofs.YtbecnaabmlkjjabDoor

/-
  The contract of impl.SealBytes.
-/
namespace Go.Proofs.YtbecnaabmlkjjabDoor
open Go.ChangeShapes Go.WideShapes Go.ChangeAt Go.RowKit
/-- What is sealed: the stream on the bytes, and the tag behind it. -/
def sealedF (k s : ByteArray) (m : Nat) (fx : Nat → Nat) (n : Nat) (f : Nat → Nat) : Nat → Nat := Sha.cat n (streamF k s f) (strB (tagT k s m fx n (streamF k s f)))
theorem streamF_lt (k s : ByteArray) {f : Nat → Nat} (hf : ∀ i, f i < 256) (i : Nat) : streamF k s f i < 256 := ctrF_lt (Gf.ws_lt (strB_lt _) _) (strB_lt s) hf i
theorem implSeal_no (k s : ByteArray) (a b : Option Addr) (m x n c : Nat) (code : Int) (hc : code ≠ 0) (hf : ∀ w : World, Calls Tryd.prog 38 #[.string k, .string s, .int .i64 (m : Int), .int .i64 (n : Int), .int .i64 65520] w fun e w' => e = .returned (.int .i64 code) ∧ w = w') (w : World) :
    Calls Tryd.prog 28 #[.string k, .string s, .slice a m x, .slice b n c] w fun e w' => e = .returned (.tuple #[.slice none 0 0, .int .i64 code]) ∧ w = w' := by
  have FA : Hid (∀ w : World, Calls Tryd.prog 38 #[.string k, .string s, .int .i64 (m : Int), .int .i64 (n : Int), .int .i64 65520] w fun e w' => e = .returned (.int .i64 code) ∧ w = w') := hf
  have e1 : (code != 0) = true := by rw [bne_iff_ne]; exact hc
  clear hf
  go_enter_defers Tryd.func28, Tryd.ntmps28
  go_wp2_with fail
  refine (FA.out _).mono ?_
  rintro e w' ⟨rfl, rfl⟩
  go_wp2
  exact ⟨_, results_tmp2 rfl _ _ _, rfl, rfl⟩
set_option maxRecDepth 100000 in
set_option maxHeartbeats 4000000 in
theorem implSeal_yes (k s : ByteArray) (xb xo m xc b o n c : Nat) (fx f : Nat → Nat) (hk : k.size = 32) (hs : s.size = 12) (hm : m ≤ 65536) (hn : n ≤ 65520) (hfx : ∀ i, fx i < 256) (hf : ∀ i, f i < 256) (w : World) (hx : Code8 w (some ⟨xb, xo, none⟩) m fx) (hc : Code8 w (some ⟨b, o, none⟩) n f) (ht : Tabs w) :
    Calls Tryd.prog 28 #[.string k, .string s, .slice (some ⟨xb, xo, none⟩) m xc, .slice (some ⟨b, o, none⟩) n c] w fun e w' => RetB2 w w' e (n + 16) (sealedF k s m fx n f) (.int .i64 0) ∧ Below w.heap.size w w' := by
  obtain ⟨i0, hi⟩ := info_parts Tryd.info8
  have HI : Hid (Tryd.prog.info? 5 = some i0 ∧ i0.zero = some (.int .u8 0) ∧ i0.size = 1 ∧ i0.bytes = 1) := hi
  obtain ⟨Z, z0, hZ, -⟩ := Tryd.zeroSl
  have FA : Hid (∀ w : World, Calls Tryd.prog 38 #[.string k, .string s, .int .i64 (m : Int), .int .i64 (n : Int), .int .i64 65520] w fun e w' => e = .returned (.int .i64 0) ∧ w = w') := sfault_ok k s m n 65520 hk hs hm (by omega)
  have KO : Hid (∀ w : World, Tabs w → Calls Tryd.prog 39 #[.string k] w fun e w' => e = .returned (.agg (bA 64 (pairF k))) ∧ Below w.heap.size w w') := fun w ht => keysOf_any k hk w ht
  have ST : Hid (∀ (q : Nat) (w : World), SealAt w q (pairF k) s (.slice (some ⟨xb, xo, none⟩) m xc) → Code8 w (some ⟨b, o, none⟩) n f → Calls Tryd.prog 41 #[.pointer (some ⟨q, 0, none⟩), .slice (some ⟨b, o, none⟩) n c] w fun e w' => RetC w w' e n (streamF k s f) ∧ Below w.heap.size w w') := fun q w h hc => streamed_any k s _ q b o n c f hs (by omega) hf w h hc
  have TG : Hid (∀ (q g cg : Nat) (w : World), SealAt w q (pairF k) s (.slice (some ⟨xb, xo, none⟩) m xc) → Code8 w (some ⟨xb, xo, none⟩) m fx → Code8 w (some ⟨g, 0, none⟩) n (streamF k s f) → Tabs w → Calls Tryd.prog 42 #[.pointer (some ⟨q, 0, none⟩), .slice (some ⟨g, 0, none⟩) n cg] w fun e w' => RetM w.heap.size w' e 16 (strB (tagT k s m fx n (streamF k s f))) ∧ Below w.heap.size w w') := fun q g cg w h hx hc ht => tag_any k s q xb xo m xc g 0 n cg fx _ hs hm (by omega) hfx (streamF_lt k s hf) w h hx hc ht
  have BU : Hid (Tryd.prog.built 67 [(0, .agg (bA 64 (pairF k))), (1, .string s), (2, .slice (some ⟨xb, xo, none⟩) m xc)] = some (slA (pairF k) s (.slice (some ⟨xb, xo, none⟩) m xc))) := built_sealer (pairF k) s (some ⟨xb, xo, none⟩) m xc
  have SS : Hid (∀ w : World, SealAt ((w.alloc (.cells Z 67)).setCells w.heap.size 0 (slA (pairF k) s (.slice (some ⟨xb, xo, none⟩) m xc)).toList) w.heap.size (pairF k) s (.slice (some ⟨xb, xo, none⟩) m xc)) := fun w => sealAt_stored w Z hZ _ _ _
  have SO : Hid ((slA (pairF k) s (.slice (some ⟨xb, xo, none⟩) m xc)).all (·.oneCell') = true) := slA_one _ _ _ _ _
  have SN : Hid ((slA (pairF k) s (.slice (some ⟨xb, xo, none⟩) m xc)).size = 66) := slA_size _ _ _
  have TH : Hid (∀ w : World, (w.alloc (.cells Z 67)).there w.heap.size 0 66) := fun w => there_big w Z _ hZ
  have EQ : Hid (sealedF k s m fx n f = fun i => if i < n then streamF k s f i else strB (tagT k s m fx n (streamF k s f)) (i - n)) := rfl
  rw [EQ.out]
  clear EQ
  generalize slA (pairF k) s (.slice (some ⟨xb, xo, none⟩) m xc) = SA at *
  generalize bA 64 (pairF k) = AG at *
  generalize pairF k = G at *
  generalize tagT k s m fx n (streamF k s f) = TT at *
  generalize streamF k s f = F at *
  have HX : Hid (Code8 w (some ⟨xb, xo, none⟩) m fx) := hx
  have HC : Hid (Code8 w (some ⟨b, o, none⟩) n f) := hc
  have HT : Hid (Tabs w) := ht
  clear hx hc ht hfx hf hk hs hi hZ
  go_enter_defers Tryd.func28, Tryd.ntmps28
  go_upto_region 4 with (go_at_call 38; refine (FA.out _).mono ?_; rintro e w' ⟨rfl, rfl⟩)
  refine wp_region_lit ?_
  refine wpList_plain rfl fun K1 hK1 => ?_
  go_simp
  refine hK1 _ _ ?_
  clear hK1 K1
  refine wpList_plain rfl fun K1 hK1 => ?_
  go_simp
  refine (KO.out _ HT.out).mono ?_
  rintro e w1 ⟨rfl, hb1⟩
  refine hK1 _ _ ?_
  clear hK1 K1
  refine wpList_plain rfl fun K1 hK1 => ?_
  go_simp
  refine hK1 _ _ ?_
  clear hK1 K1
  refine wpList_plain rfl fun K1 hK1 => ?_
  go_simp
  refine hK1 _ _ ?_
  clear hK1 K1
  refine wpList_buildS rfl 67 #[(0, .tmp 24), (1, .tmp 25), (2, .tmp 26)] rfl [(0, .agg AG), (1, .string s), (2, .slice (some ⟨xb, xo, none⟩) m xc)] (by simp only [List.map_toArray, List.map_cons, List.map_nil]; rfl) SA BU.out ?_
  refine wpList_plain rfl fun K1 hK1 => ?_
  go_simp
  refine hK1 _ _ ?_
  clear hK1 K1
  have B1 : Hid (Below w.heap.size w w1) := hb1
  have S2 : Hid (SealAt ((w1.alloc (.cells Z 67)).setCells w1.heap.size 0 SA.toList) w1.heap.size G s (.slice (some ⟨xb, xo, none⟩) m xc)) := SS.out w1
  have B2 : Hid (Below w.heap.size w ((w1.alloc (.cells Z 67)).setCells w1.heap.size 0 SA.toList)) := below_setCells B1.out.size _ _ _ (B1.out.alloc B1.out.size _)
  have hq : w.heap.size ≤ w1.heap.size := B1.out.size
  clear hb1 KO FA B1
  refine wpList_store_mid rfl 67 (.tmp 11) (.tmp 27) rfl w1.heap.size 0 SA rfl rfl (by rw [SN.out]; exact TH.out w1) (by rw [SN.out]; exact Tryd.sizeSl) SO.out ?_
  generalize (w1.alloc (.cells Z 67)).setCells w1.heap.size 0 SA.toList = w2 at *
  generalize w1.heap.size = q at *
  clear BU SS SO SN TH z0
  go_wp2_with fail
  refine (ST.out q w2 S2.out (HC.out.below B2.out)).mono ?_
  rintro e w3 ⟨⟨g, cg, ⟨hg, hcg⟩, rfl, ho⟩, hb3⟩
  have S3 : Hid (SealAt w3 q G s (.slice (some ⟨xb, xo, none⟩) m xc)) := S2.out.below hb3
  have B3 : Hid (Below w.heap.size w w3) := B2.out.trans (hb3.mono B2.out.size)
  have O3 : Hid (OwnC cg w3 g n F) := ho
  have hgw : w.heap.size ≤ g := Nat.le_trans B2.out.size hg
  have hgq : q ≠ g := by have := S2.out.lt; omega
  clear ho hb3 hg S2 B2 HC ST
  go_wp2_with fail
  refine (TG.out q g cg w3 S3.out (HX.out.below B3.out) O3.out.code (HT.out.below B3.out)).mono ?_
  rintro e w4 ⟨⟨tg, tc, rfl, htg, hr4⟩, hb4⟩
  have S4 : Hid (SealAt w4 q G s (.slice (some ⟨xb, xo, none⟩) m xc)) := S3.out.below hb4
  have B4 : Hid (Below w.heap.size w w4) := B3.out.trans (hb4.mono B3.out.size)
  have O4 : Hid (w4.ownsRow w.heap.size 5 1 (.slice (some ⟨g, 0, none⟩) n cg) n (bv n F)) := own_of_ownC (O3.out.below hb4) hgw
  have N4 : Hid (∀ j u, (bv 16 (strB TT))[j]? = some u → w4.cell? ((⟨tg, 0, none⟩ : Addr).add j) = some u) := bv_news hr4.code
  have hw4 : w.heap.size ≤ w4.heap.size := B4.out.size
  clear hr4 hb4 htg S3 B3 O3 HX HT TG
  go_wp2_with (at_builtin; refine wpList_append_own _ rfl _ _ 25 rfl w.heap.size 5 i0 (.int .u8 0) 1 1 Tryd.underlying25 HI.out.1 HI.out.2.1 HI.out.2.2.1 HI.out.2.2.2 rfl (by decide) (.slice (some ⟨g, 0, none⟩) n cg) n _ rfl O4.out ⟨tg, 0, none⟩ 16 tc (bv 16 (strB TT)) rfl (by rw [bv_length, Nat.mul_one]) N4.out (bv_one _ _) (by unfold maxLen; omega) (by omega) hw4 ?_)
  intro v' w5 hown hgrow hnil
  have BG : Below w.heap.size w4 w5 := (Below.refl _ w4).grown hgrow hw4 (fun b hb => (O4.out.lt b hb).1)
  have B5 : Hid (Below w.heap.size w w5) := B4.out.trans BG
  have S5 : SealAt w5 q G s (.slice (some ⟨xb, xo, none⟩) m xc) := World.rowIs.of_block S4.out (hgrow.block q S4.out.lt (by intro e; simp [Value.ownBlock] at e; exact hgq e))
  rw [bv_append] at hown
  obtain ⟨g5, c5, hg5, rfl, h8⟩ := own8_of_own hown hnil
  have hne : g5 ≠ q := fun e => by
    obtain ⟨_, _, _, ⟨_, ha, _⟩, _⟩ := h8
    obtain ⟨_, hb, _⟩ := S5
    rw [e, hb] at ha
    simp at ha
  have O5 : Hid (Own8 w5 g5 (n + 16) (fun i => if i < n then F i else strB TT (i - n))) := h8
  have T5 : Hid (w5.there q 0 64) := S5.there
  clear hown hgrow hnil BG h8 S5 S4 B4 O4 N4
  go_wp2
  refine leaves_cons (f := 40) (args := #[.pointer (some ⟨q, 0, none⟩)]) (by simp) (by simp [go_sem]) ?_
  refine (forget_deferred q .returning _ T5.out).mono ?_
  rintro e u' w6 ⟨rfl, rfl, ho⟩
  exact ⟨_, results_tmp2 rfl _ _ _, ⟨g5, c5, hg5, rfl, O5.out.onlyB ho hne⟩, B5.out.trans (ho.toBelow hq B5.out.size)⟩
end Go.Proofs.YtbecnaabmlkjjabDoor

/-
  The model's own test whether a number lies between two.
-/
namespace Go.Proofs.YtbecnaabmlkjjabDoor
open Go.ChangeShapes Go.WideShapes Go.ChangeAt Go.RowKit
theorem in_any (x a b : Int) (r : Bool) (hr : r = decide (a ≤ x ∧ x ≤ b)) (w : World) :
    Calls Tryd.prog 17 #[.int .i64 x, .int .i64 a, .int .i64 b] w fun e w' => e = .returned (.bool r) ∧ w = w' := by
  by_cases h1 : a ≤ x
  · by_cases h2 : x ≤ b
    · obtain rfl : r = true := by rw [hr]; simp; omega
      clear hr
      go_enter Tryd.func17, Tryd.ntmps17
      go_wp2
      go_ret
      exact ⟨rfl, rfl⟩
    · obtain rfl : r = false := by rw [hr]; simp; omega
      clear hr
      go_enter Tryd.func17, Tryd.ntmps17
      go_wp2
      go_ret
      exact ⟨rfl, rfl⟩
  · obtain rfl : r = false := by rw [hr]; simp; omega
    clear hr
    go_enter Tryd.func17, Tryd.ntmps17
    go_wp2
    go_ret
    exact ⟨rfl, rfl⟩
end Go.Proofs.YtbecnaabmlkjjabDoor

/-
  Nonces of a place and a version: SealNonce of the program and of the model, and its exact law.
-/
namespace Go.Proofs.YtbecnaabmlkjjabDoor
open Go.ChangeShapes Go.WideShapes Go.ChangeAt Go.RowKit
def fourF (k j : Nat) : Nat := k / 256 ^ (3 - j) % 256
theorem fourF_lt (k j : Nat) : fourF k j < 256 := Nat.mod_lt _ (by omega)
/-- The bytes of a nonce. -/
def nonceF (p v : Nat) : Nat → Nat := numF 8 4 v (numF 4 4 p (fun _ => 0))
theorem four_num (k x : Nat) (f : Nat → Nat) (i : Nat) : numF k 4 x f (k + i) = fourF x i := by
  unfold numF fourF
  rw [if_neg (by omega), show k + i - k = i from by omega, show (4 : Nat) - 1 - i = 3 - i from by omega, Nat.pow_mul]
theorem nonce_text (p v : Nat) : kstr (fourF 0) 0 4 ++ kstr (fourF p) 0 4 ++ kstr (fourF v) 0 4 = kstr (nonceF p v) 0 12 := by
  have e0 : kstr (fourF 0) 0 4 = kstr (nonceF p v) 0 4 := kstr_congr (fun i hi => by
    unfold nonceF
    rw [Nat.zero_add]
    show fourF 0 i = if i < 8 then (if i < 4 then 0 else _) else _
    rw [if_pos (by omega), if_pos hi]
    unfold fourF
    rw [Nat.zero_div])
  have e1 : kstr (fourF p) 0 4 = kstr (nonceF p v) 4 4 := kstr_congr (fun i hi => by
    rw [Nat.zero_add]
    show fourF p i = if 4 + i < 8 then numF 4 4 p (fun _ => 0) (4 + i) else _
    rw [if_pos (by omega), four_num])
  have e2 : kstr (fourF v) 0 4 = kstr (nonceF p v) 8 4 := kstr_congr (fun i hi => by
    rw [Nat.zero_add]
    exact (four_num 8 v _ i).symm)
  rw [e0, e1, e2, kstr_append, kstr_append]
theorem nonceF_lt (p v j : Nat) : nonceF p v j < 256 := by
  unfold nonceF numF
  split
  · split
    · exact (by decide : (0 : Nat) < 256)
    · exact Nat.mod_lt _ (by omega)
  · exact Nat.mod_lt _ (by omega)
theorem l02FourB_any (k : Nat) (hk : k < 4294967296) (w : World) :
    Calls Tryd.prog 24 #[.int .i64 (k : Int)] w fun e w' => e = .returned (.slice (some ⟨w.heap.size, 0, none⟩) 4 4) ∧ Own8 w' w.heap.size 4 (fourF k) ∧ Below w.heap.size w w' := by
  go_enter Tryd.func24, Tryd.ntmps24
  go_wp2
  go_ret
  refine ⟨rfl, Own8.ofRow (World.rowIs_alloc w #[.int .u8 ((k : Int) / 16777216), .int .u8 ((k : Int) / 65536 % 256), .int .u8 ((k : Int) / 256 % 256), .int .u8 ((k : Int) % 256)] 5 _ (fun i hi => ?_)), (Below.refl _ _).alloc (Nat.le_refl _) _⟩
  have hi' : i < 4 := by simpa using hi
  rcases (show i = 0 ∨ i = 1 ∨ i = 2 ∨ i = 3 by omega) with rfl | rfl | rfl | rfl
  · exact congrArg some (numEq8 (by show (k : Int) / 16777216 = ((k / 16777216 % 256 : Nat) : Int); omega))
  · exact congrArg some (numEq8 (by show (k : Int) / 65536 % 256 = ((k / 65536 % 256 : Nat) : Int); omega))
  · exact congrArg some (numEq8 (by show (k : Int) / 256 % 256 = ((k / 256 % 256 : Nat) : Int); omega))
  · exact congrArg some (numEq8 (by show (k : Int) % 256 = ((k / 1 % 256 : Nat) : Int); omega))
set_option maxRecDepth 100000 in
set_option maxHeartbeats 1000000 in
theorem l04Nonce_any (p v : Nat) (hp : p < 4294967296) (hv : v < 4294967296) (w : World) :
    Calls Tryd.prog 26 #[.int .i64 (p : Int), .int .i64 (v : Int)] w fun e w' => e = .returned (.string (kstr (nonceF p v) 0 12)) ∧ Below w.heap.size w w' := by
  have FO : Hid (∀ (k : Nat) (w : World), k < 4294967296 → Calls Tryd.prog 24 #[.int .i64 (k : Int)] w fun e w' => e = .returned (.slice (some ⟨w.heap.size, 0, none⟩) 4 4) ∧ Own8 w' w.heap.size 4 (fourF k) ∧ Below w.heap.size w w') := fun k w h => l02FourB_any k h w
  have F0 : Hid (∀ (w : World), Calls Tryd.prog 24 #[.int .i64 0] w fun e w' => e = .returned (.slice (some ⟨w.heap.size, 0, none⟩) 4 4) ∧ Own8 w' w.heap.size 4 (fourF 0) ∧ Below w.heap.size w w') := fun w => FO.out 0 w (by omega)
  rw [← nonce_text]
  have z0 : (kstr (fourF 0) 0 4).size = 4 := kstr_size _ _ _
  have z1 : (kstr (fourF p) 0 4).size = 4 := kstr_size _ _ _
  have z2 : (kstr (fourF v) 0 4).size = 4 := kstr_size _ _ _
  generalize hg0 : kstr (fourF 0) 0 4 = s0 at *
  generalize hg1 : kstr (fourF p) 0 4 = s1 at *
  generalize hg2 : kstr (fourF v) 0 4 = s2 at *
  go_enter Tryd.func26, Tryd.ntmps26
  go_upto_region 1 with fail
  refine wp_region_noPanic ?_
  refine wp_region_held_drew (S := fun _ => True) (by kernel_rfl) trivial (fun _ => ?_)
  refine wpAnyH_take (i := 2) (v := .int .i64 (p : Int)) rfl (by kernel_rfl) (by kernel_rfl) (by kernel_rfl) (fun _ _ _ h => h) (Or.inl ⟨by rfl, ?_⟩) trivial ?_
  · intro w hSw; go_simp
  change wpAnyH _ _ _ _ _ _ _ { tmps := #[_, _, _, _, _, _, _, _, _, _, _, _, _, _, _], defers := [] } _
  refine wpAnyH_take (i := 6) (v := .int .i64 (v : Int)) rfl (by kernel_rfl) (by kernel_rfl) (by kernel_rfl) (fun _ _ _ h => h) (Or.inl ⟨by rfl, ?_⟩) trivial ?_
  · intro w hSw; go_simp
  change wpAnyH _ _ _ _ _ _ _ { tmps := #[_, _, _, _, _, _, _, _, _, _, _, _, _, _, _], defers := [] } _
  refine wpAnyH_ready (rs := [0]) (by kernel_rfl) (by simp) ?_
  refine AllReadyH.cons rfl (fun KK hK => ?_) AllReadyH.nil
  go_simp
  refine (F0.out _).mono ?_
  rintro e w1 ⟨rfl, ho1, hb1⟩
  refine hK.out _ _ trivial (fun _ => ?_)
  clear hK KK
  change wpAnyH _ _ _ _ _ _ _ { tmps := #[_, _, _, _, _, _, _, _, _, _, _, _, _, _, _], defers := [] } _
  have HB1 : Hid (Below w.heap.size w w1) := (Below.refl _ w).drew.trans hb1
  change Own8 w1 w.heap.size 4 (fourF 0) at ho1
  change wpAnyH _ _ _ _ _ _ _ { tmps := #[_, _, _, _, _, .slice (some ⟨w.heap.size, 0, none⟩) 4 4, _, _, _, _, _, _, _, _, _], defers := [] } _
  clear hb1
  refine wpAnyH_strong (S' := fun w' => Own8 w' w.heap.size 4 (fourF 0)) (fun _ _ => trivial) _ _ _ _ ?_
  refine wpAnyH_take (i := 1) (v := .string s0) rfl (by kernel_rfl) (by kernel_rfl) (by kernel_rfl) (fun _ _ _ h => h) (Or.inl ⟨by rfl, ?_⟩) ho1 ?_
  · intro w' hSw
    have := kstr_of_code (c := 4) hSw.code
    rw [hg0] at this
    go_simp
  change wpAnyH _ _ _ _ _ _ _ { tmps := #[_, _, _, _, _, _, _, _, _, _, _, _, _, _, _], defers := [] } _
  refine wpAnyH_ready (rs := [3]) (by kernel_rfl) (by simp) ?_
  refine AllReadyH.cons rfl (fun KK hK => ?_) AllReadyH.nil
  go_simp
  refine (FO.out p _ hp).mono ?_
  rintro e w2 ⟨rfl, ho2, hb2⟩
  have hk2 : Own8 w2 w.heap.size 4 (fourF 0) := ho1.below hb2
  refine hK.out _ _ hk2 (fun _ => ?_)
  clear hK KK
  change wpAnyH _ _ _ _ _ _ _ { tmps := #[_, _, _, _, _, _, _, _, _, _, _, _, _, _, _], defers := [] } _
  have HB2 : Hid (Below w.heap.size w w2) := HB1.out.trans (hb2.mono HB1.out.size)
  clear hb2 HB1 ho1
  generalize w1.heap.size = b1 at *
  refine wpAnyH_strong (S' := fun w' => Own8 w' b1 4 (fourF p) ∧ Own8 w' w.heap.size 4 (fourF 0)) (fun _ h => h.2) _ _ _ _ ?_
  refine wpAnyH_take (i := 4) (v := .string s1) rfl (by kernel_rfl) (by kernel_rfl) (by kernel_rfl) (fun _ _ _ h => h) (Or.inl ⟨by rfl, ?_⟩) ⟨ho2, hk2⟩ ?_
  · intro w' hSw
    have := kstr_of_code (c := 4) hSw.1.code
    rw [hg1] at this
    go_simp
  change wpAnyH _ _ _ _ _ _ _ { tmps := #[_, _, _, _, _, _, _, _, _, _, _, _, _, _, _], defers := [] } _
  refine wpAnyH_take (i := 5) (v := .string (s0 ++ s1)) rfl (by kernel_rfl) (by kernel_rfl) (by kernel_rfl) (fun _ _ _ h => h) (Or.inl ⟨by rfl, ?_⟩) ⟨ho2, hk2⟩ ?_
  · intro w' hSw; go_simp
  change wpAnyH _ _ _ _ _ _ _ { tmps := #[_, _, _, _, _, _, _, _, _, _, _, _, _, _, _], defers := [] } _
  refine wpAnyH_ready (rs := [7]) (by kernel_rfl) (by simp) ?_
  refine AllReadyH.cons rfl (fun KK hK => ?_) AllReadyH.nil
  go_simp
  refine (FO.out v _ hv).mono ?_
  rintro e w3 ⟨rfl, ho3, hb3⟩
  refine hK.out _ _ ⟨ho2.below hb3, hk2.below hb3⟩ (fun _ => ?_)
  clear hK KK
  change wpAnyH _ _ _ _ _ _ _ { tmps := #[_, _, _, _, _, _, _, _, _, _, _, _, _, _, _], defers := [] } _
  have HB3 : Hid (Below w.heap.size w w3) := HB2.out.trans (hb3.mono HB2.out.size)
  have hS3 : Own8 w3 b1 4 (fourF p) ∧ Own8 w3 w.heap.size 4 (fourF 0) := ⟨ho2.below hb3, hk2.below hb3⟩
  clear hb3 HB2 ho2 hk2
  generalize w2.heap.size = b2 at *
  refine wpAnyH_strong (S' := fun w' => Own8 w' b2 4 (fourF v) ∧ Own8 w' b1 4 (fourF p) ∧ Own8 w' w.heap.size 4 (fourF 0)) (fun _ h => h.2) _ _ _ _ ?_
  refine wpAnyH_take (i := 8) (v := .string s2) rfl (by kernel_rfl) (by kernel_rfl) (by kernel_rfl) (fun _ _ _ h => h) (Or.inl ⟨by rfl, ?_⟩) ⟨ho3, hS3⟩ ?_
  · intro w' hSw
    have := kstr_of_code (c := 4) hSw.1.code
    rw [hg2] at this
    go_simp
  change wpAnyH _ _ _ _ _ _ _ { tmps := #[_, _, _, _, _, _, _, _, _, _, _, _, _, _, _], defers := [] } _
  refine wpAnyH_take (i := 9) (v := .string (s0 ++ s1 ++ s2)) rfl (by kernel_rfl) (by kernel_rfl) (by kernel_rfl) (fun _ _ _ h => h) (Or.inl ⟨by rfl, ?_⟩) ⟨ho3, hS3⟩ ?_
  · intro w' hSw; go_simp
  change wpAnyH _ _ _ _ _ _ _ { tmps := #[_, _, _, _, _, _, _, _, _, _, _, _, _, _, _], defers := [] } _
  refine wpAnyH_take (i := 10) (v := .string (s0 ++ s1 ++ s2)) rfl (by kernel_rfl) (by kernel_rfl) (by kernel_rfl) (fun _ _ _ h => h) (Or.inl ⟨by rfl, ?_⟩) ⟨ho3, hS3⟩ ?_
  · intro w' hSw; go_simp
  change wpAnyH _ _ _ _ _ _ _ { tmps := #[_, _, _, _, _, _, _, _, _, _, _, _, _, _, _], defers := [] } _
  clear hS3 ho3
  refine wpAnyH_done (by kernel_rfl) ?_ _
  refine NoPanic.normal ?_
  go_wp2
  go_ret
  exact ⟨rfl, HB3.out⟩
theorem isWord_any (x : Int) (r : Bool) (hr : r = decide (0 ≤ x ∧ x ≤ 4294967295)) (w : World) :
    Calls Tryd.prog 37 #[.int .i64 x] w fun e w' => e = .returned (.bool r) ∧ w = w' := by
  by_cases h1 : 0 ≤ x
  · by_cases h2 : x ≤ 4294967295
    · obtain rfl : r = true := by rw [hr]; simp; omega
      clear hr
      go_enter Tryd.func37, Tryd.ntmps37
      go_wp2
      go_ret
      exact ⟨rfl, rfl⟩
    · obtain rfl : r = false := by rw [hr]; simp; omega
      clear hr
      go_enter Tryd.func37, Tryd.ntmps37
      go_wp2
      go_ret
      exact ⟨rfl, rfl⟩
  · obtain rfl : r = false := by rw [hr]; simp; omega
    clear hr
    go_enter Tryd.func37, Tryd.ntmps37
    go_wp2
    go_ret
    exact ⟨rfl, rfl⟩
theorem implNonce_no (p v : Int) (h : ¬ (0 ≤ p ∧ p ≤ 4294967295 ∧ 0 ≤ v ∧ v ≤ 4294967295)) (w : World) :
    Calls Tryd.prog 27 #[.int .i64 p, .int .i64 v] w fun e w' => e = .returned (.tuple #[.string ⟨#[]⟩, .int .i64 4]) ∧ w = w' := by
  by_cases h1 : 0 ≤ p ∧ p ≤ 4294967295
  · have L1 : Hid (∀ w : World, Calls Tryd.prog 37 #[.int .i64 p] w fun e w' => e = .returned (.bool true) ∧ w = w') := fun w => isWord_any p true (by simp; omega) w
    have L2 : Hid (∀ w : World, Calls Tryd.prog 37 #[.int .i64 v] w fun e w' => e = .returned (.bool false) ∧ w = w') := fun w => isWord_any v false (by simp; omega) w
    clear h h1
    go_enter Tryd.func27, Tryd.ntmps27
    go_wp2_with fail
    refine (L1.out _).mono ?_
    rintro e w1 ⟨rfl, rfl⟩
    go_wp2_with fail
    refine (L2.out _).mono ?_
    rintro e w1 ⟨rfl, rfl⟩
    go_wp2
    go_ret2
    exact ⟨rfl, rfl⟩
  · have L1 : Hid (∀ w : World, Calls Tryd.prog 37 #[.int .i64 p] w fun e w' => e = .returned (.bool false) ∧ w = w') := fun w => isWord_any p false (by simp; omega) w
    clear h h1
    go_enter Tryd.func27, Tryd.ntmps27
    go_wp2_with fail
    refine (L1.out _).mono ?_
    rintro e w1 ⟨rfl, rfl⟩
    go_wp2
    go_ret2
    exact ⟨rfl, rfl⟩
theorem mkFour (w : World) : ∃ w', (Instr.makeSlice 25 (.int .i64 4) (.int .i64 12)).run Tryd.prog w = .ok (.slice (some ⟨w.heap.size, 0, none⟩) 4 12) w' ∧ RowM w' w.heap.size 4 12 (fun _ => 0) ∧ Below w.heap.size w w' := by
  obtain ⟨i0, h1, h2, h3, h4⟩ := info_parts Tryd.info8
  have hr := run_make (P := Tryd.prog) w 25 5 i0 (.int .u8 0) Tryd.underlying25 h1 h2 .i64 .i64 4 12 (by omega) (by omega) (by rw [h4]; omega) (by omega)
  rw [h3] at hr
  have hrow := World.rowIs_made w (.int .u8 0) 12 5
  exact ⟨_, hr, ⟨by omega, fun i hi => hrow.cell (by omega), fun i hi => ⟨by rw [show (w.alloc (.cells (madeCells (Value.cells (.int .u8 0)) ((12 : Int).toNat * 1)) 5)).cell? ⟨w.heap.size, i, none⟩ = some (.int .u8 0) from hrow.cell hi]; rfl, hrow.frozen i⟩, hrow.lt⟩, (Below.refl _ _).alloc (Nat.le_refl _) _⟩
set_option maxRecDepth 100000 in
theorem implNonce_yes (p v : Nat) (hp : p < 4294967296) (hv : v < 4294967296) (w : World) :
    Calls Tryd.prog 27 #[.int .i64 (p : Int), .int .i64 (v : Int)] w fun e w' => e = .returned (.tuple #[.string (kstr (nonceF p v) 0 12), .int .i64 0]) ∧ Below w.heap.size w w' := by
  have L1 : Hid (∀ w : World, Calls Tryd.prog 37 #[.int .i64 (p : Int)] w fun e w' => e = .returned (.bool true) ∧ w = w') := fun w => isWord_any p true (by simp; omega) w
  have L2 : Hid (∀ w : World, Calls Tryd.prog 37 #[.int .i64 (v : Int)] w fun e w' => e = .returned (.bool true) ∧ w = w') := fun w => isWord_any v true (by simp; omega) w
  have AN : Hid (∀ (g k c x : Nat) (f : Nat → Nat) (w1 : World), k ≤ 1000 → w.heap.size ≤ g → w.heap.size ≤ w1.heap.size → RowM w1 g k c f → Calls Tryd.prog 29 #[.slice (some ⟨g, 0, none⟩) k c, .int .i64 (x : Int), .int .i64 4] w1 fun e w' => RetM w.heap.size w' e (k + 4) (numF k 4 x f) ∧ Below w.heap.size w1 w') := fun g k c x f w1 hk h1 h2 h => appendNumberM_any w.heap.size g k c x 4 f (by omega) (by omega) w1 h1 h2 h
  obtain ⟨X, hX⟩ : ∃ X, X = kstr (nonceF p v) 0 12 := ⟨_, rfl⟩
  rw [← hX]
  have HX : Hid (X = kstr (nonceF p v) 0 12) := hX
  clear hX
  obtain ⟨w0, hmk, hr0, hb0⟩ := mkFour w
  have R0 : Hid (RowM w0 w.heap.size 4 12 (fun _ => 0)) := hr0
  have B0 : Hid (Below w.heap.size w w0) := hb0
  clear hp hv hr0 hb0
  go_enter Tryd.func27, Tryd.ntmps27
  go_wp2_with fail
  refine (L1.out _).mono ?_
  rintro e w1 ⟨rfl, rfl⟩
  go_wp2_with fail
  refine (L2.out _).mono ?_
  rintro e w1 ⟨rfl, rfl⟩
  go_wp2_with fail
  refine (AN.out w.heap.size 4 12 p _ w0 (by omega) (Nat.le_refl _) B0.out.size R0.out).mono ?_
  rintro e w1 ⟨⟨g1, c1, rfl, hg1, hr1⟩, hb1⟩
  have R1 : Hid (RowM w1 g1 (4 + 4) c1 (numF 4 4 p (fun _ => 0))) := hr1
  have B1 : Hid (Below w.heap.size w w1) := B0.out.trans hb1
  have G1 : Hid (w.heap.size ≤ g1) := hg1
  clear hr1 hb1 hg1 R0 B0 hmk
  go_wp2_with fail
  refine (AN.out g1 8 c1 v _ w1 (by omega) G1.out B1.out.size R1.out).mono ?_
  rintro e w2 ⟨⟨g2, c2, rfl, hg2, hr2⟩, hb2⟩
  have B2 : Hid (Below w.heap.size w w2) := B1.out.trans hb2
  have hcv := kstr_of_code (c := c2) hr2.code
  change (convert 25 9 (.slice (some ⟨g2, 0, none⟩) 12 c2)).run Tryd.prog w2 = .ok (.string (kstr (nonceF p v) 0 12)) w2 at hcv
  rw [← HX.out] at hcv
  clear hr2 hb2 hg2 R1 B1 G1 AN
  go_wp2
  go_ret2
  exact ⟨rfl, B2.out⟩
end Go.Proofs.YtbecnaabmlkjjabDoor

/-
  Slots: what their bytes are, and the program's.
-/
namespace Go.Proofs.YtbecnaabmlkjjabDoor
open Go.ChangeShapes Go.WideShapes Go.ChangeAt Go.RowKit
set_option linter.unusedVariables false
/-- The bytes of "slot". -/
def slotX (i : Nat) : Nat := if i = 0 then 115 else if i = 1 then 108 else if i = 2 then 111 else 116
theorem slotX_lt (i : Nat) : slotX i < 256 := by unfold slotX; split; omega; split; omega; split; omega; omega
/-- The bytes of a slot at a place. -/
def slotF (k : ByteArray) (p ep : Nat) (s : ByteArray) : Nat → Nat := Sha.cat 4 (fourF ep) (sealedF k (kstr (nonceF p ep) 0 12) 4 slotX s.size (strB s))
theorem slot_code (w : World) : Code8 (w.alloc (.cells #[.int .u8 115, .int .u8 108, .int .u8 111, .int .u8 116] 5 (4, 5))) (some ⟨w.heap.size, 0, none⟩) 4 slotX := code8_of (fun i hi => by
  rw [Nat.zero_add, World.cell?_alloc_mark]
  rcases (show i = 0 ∨ i = 1 ∨ i = 2 ∨ i = 3 by omega) with rfl | rfl | rfl | rfl <;> (simp [slotX]))
theorem num0_four (x : Nat) (i : Nat) : numF 0 4 x (fun _ => 0) i = fourF x i := by have := four_num 0 x (fun _ => 0) i; rwa [Nat.zero_add] at this
set_option maxRecDepth 100000 in
set_option maxHeartbeats 4000000 in
theorem sealedSlot_any (k s : ByteArray) (p ep : Nat) (hk : k.size = 32) (hp : p < 4294967296) (hep : ep < 4294967296) (hs : s.size ≤ 60000) (w : World) (ht : Tabs w) :
    Calls Tryd.prog 21 #[.string k, .int .i64 (p : Int), .agg #[.int .i64 (ep : Int), .string s]] w fun e w' => RetO w.heap.size w' e (20 + s.size) (slotF k p ep s) ∧ Below w.heap.size w w' := by
  obtain ⟨i0, hi⟩ := info_parts Tryd.info8
  have HI : Hid (Tryd.prog.info? 5 = some i0 ∧ i0.zero = some (.int .u8 0) ∧ i0.size = 1 ∧ i0.bytes = 1) := hi
  have NO : Hid (∀ w : World, Calls Tryd.prog 27 #[.int .i64 (p : Int), .int .i64 (ep : Int)] w fun e w' => e = .returned (.tuple #[.string (kstr (nonceF p ep) 0 12), .int .i64 0]) ∧ Below w.heap.size w w') := fun w => implNonce_yes p ep hp hep w
  have SE : Hid (∀ (xb xc b c : Nat) (w : World), Code8 w (some ⟨xb, 0, none⟩) 4 slotX → Code8 w (some ⟨b, 0, none⟩) s.size (strB s) → Tabs w → Calls Tryd.prog 28 #[.string k, .string (kstr (nonceF p ep) 0 12), .slice (some ⟨xb, 0, none⟩) 4 xc, .slice (some ⟨b, 0, none⟩) s.size c] w fun e w' => RetB2 w w' e (s.size + 16) (sealedF k (kstr (nonceF p ep) 0 12) 4 slotX s.size (strB s)) (.int .i64 0) ∧ Below w.heap.size w w') := fun xb xc b c w h1 h2 h3 => implSeal_yes k _ xb 0 4 xc b 0 s.size c slotX (strB s) hk (kstr_size _ _ _) (by omega) (by omega) slotX_lt (strB_lt _) w h1 h2 h3
  have AN : Hid (∀ w : World, Calls Tryd.prog 29 #[.slice none 0 0, .int .i64 (ep : Int), .int .i64 4] w fun e w' => RetO w.heap.size w' e 4 (numF 0 4 ep (fun _ => 0)) ∧ Below w.heap.size w w') := fun w => appendNumber_nil ep 4 (by omega) (by omega) w
  have EF : Hid (bv 4 (numF 0 4 ep (fun _ => 0)) ++ bv (s.size + 16) (sealedF k (kstr (nonceF p ep) 0 12) 4 slotX s.size (strB s)) = bv (20 + s.size) (slotF k p ep s)) := by
    show _ = _
    rw [bv_congr (g := fourF ep) (fun i _ => num0_four ep i), bv_append, show 4 + (s.size + 16) = 20 + s.size from by omega]
    rfl
  have HT : Hid (Tabs w) := ht
  generalize hN : kstr (nonceF p ep) 0 12 = NN at *
  generalize hF : sealedF k NN 4 slotX s.size (strB s) = F at *
  generalize hG : slotF k p ep s = G at *
  generalize hU : numF 0 4 ep (fun _ => 0) = U at *
  have HS : Hid (s.size ≤ 60000) := hs
  clear hi hk hp hep ht hN hF hG hU hs
  have A1 : Hid (Below w.heap.size w (w.alloc (.cells #[.int .i64 (ep : Int), .string s] 28))) := (Below.refl _ _).alloc (Nat.le_refl _) _
  have b0 : (w.alloc (.cells #[.int .i64 (ep : Int), .string s] 28)).cell? ⟨w.heap.size, 0, none⟩ = some (.int .i64 (ep : Int)) := by simp
  have b1 : (w.alloc (.cells #[.int .i64 (ep : Int), .string s] 28)).cell? ⟨w.heap.size, 1, none⟩ = some (.string s) := by simp
  have L1 : w.heap.size < (w.alloc (.cells #[.int .i64 (ep : Int), .string s] 28)).heap.size := by simp
  go_enter Tryd.func21, Tryd.ntmps21
  go_wp2_with fail
  generalize (w.alloc (.cells #[.int .i64 (ep : Int), .string s] 28)) = v1 at *
  refine (NO.out _).mono ?_
  rintro e v2 ⟨rfl, hb⟩
  have c0 : v2.cell? ⟨w.heap.size, 0, none⟩ = some (.int .i64 (ep : Int)) := (hb.cell L1).trans b0
  have c1 : v2.cell? ⟨w.heap.size, 1, none⟩ = some (.string s) := (hb.cell L1).trans b1
  replace A1 : Hid (Below w.heap.size w v2) := A1.out.trans (hb.mono A1.out.size)
  have L2 : Hid (w.heap.size < v2.heap.size) := Nat.lt_of_lt_of_le L1 hb.size
  clear b0 b1 L1 hb NO
  have hcv1 : (convert 25 25 (.slice (some ⟨v2.heap.size, 0, none⟩) 4 4)).run Tryd.prog (v2.alloc (.cells #[.int .u8 115, .int .u8 108, .int .u8 111, .int .u8 116] 5)) = .ok (.slice (some ⟨v2.heap.size, 0, none⟩) 4 4) (v2.alloc (.cells #[.int .u8 115, .int .u8 108, .int .u8 111, .int .u8 116] 5 (4, 5))) := conv_rowS v2 #[.int .u8 115, .int .u8 108, .int .u8 111, .int .u8 116] 4 4
  have hbA : Below v2.heap.size v2 (v2.alloc (.cells #[.int .u8 115, .int .u8 108, .int .u8 111, .int .u8 116] 5 (4, 5))) := (Below.refl _ _).alloc (Nat.le_refl _) _
  have X3 : Hid (Code8 (v2.alloc (.cells #[.int .u8 115, .int .u8 108, .int .u8 111, .int .u8 116] 5 (4, 5))) (some ⟨v2.heap.size, 0, none⟩) 4 slotX) := slot_code v2
  have b1 : (v2.alloc (.cells #[.int .u8 115, .int .u8 108, .int .u8 111, .int .u8 116] 5 (4, 5))).cell? ⟨w.heap.size, 1, none⟩ = some (.string s) := (hbA.cell L2.out).trans c1
  have b0 : Hid ((v2.alloc (.cells #[.int .u8 115, .int .u8 108, .int .u8 111, .int .u8 116] 5 (4, 5))).cell? ⟨w.heap.size, 0, none⟩ = some (.int .i64 (ep : Int))) := (hbA.cell L2.out).trans c0
  replace A1 : Hid (Below w.heap.size w (v2.alloc (.cells #[.int .u8 115, .int .u8 108, .int .u8 111, .int .u8 116] 5 (4, 5)))) := A1.out.trans (hbA.mono A1.out.size)
  have L3 : Hid (w.heap.size < (v2.alloc (.cells #[.int .u8 115, .int .u8 108, .int .u8 111, .int .u8 116] 5 (4, 5))).heap.size) := Nat.lt_of_lt_of_le L2.out hbA.size
  clear hbA L2
  generalize (v2.alloc (.cells #[.int .u8 115, .int .u8 108, .int .u8 111, .int .u8 116] 5 (4, 5))) = v3 at *
  obtain ⟨v4, c4, hcv, hk4, hb4, _⟩ := bytesOfM s v3
  have X4 : Hid (Code8 v4 (some ⟨v2.heap.size, 0, none⟩) 4 slotX) := X3.out.below hb4
  have K4 : Hid (Code8 v4 (some ⟨v3.heap.size, 0, none⟩) s.size (strB s)) := hk4
  have B4 : Hid (Below w.heap.size w v4) := A1.out.trans (hb4.mono A1.out.size)
  have D0 : Hid (v4.cell? ⟨w.heap.size, 0, none⟩ = some (.int .i64 (ep : Int))) := (hb4.cell L3.out).trans b0.out
  have L4 : Hid (w.heap.size < v4.heap.size) := Nat.lt_of_lt_of_le L3.out hb4.size
  clear hk4 hb4 X3 A1 b0 L3
  go_wp2_with fail
  refine (SE.out _ _ _ _ _ X4.out K4.out (HT.out.below B4.out)).mono ?_
  rintro e v5 ⟨⟨b, c, ⟨hgb, hgc⟩, rfl, ho⟩, hb⟩
  have d0 : v5.cell? ⟨w.heap.size, 0, none⟩ = some (.int .i64 (ep : Int)) := (hb.cell L4.out).trans D0.out
  have B5 : Hid (Below w.heap.size w v5) := B4.out.trans (hb.mono B4.out.size)
  have O5 : Hid (Code8 v5 (some ⟨b, 0, none⟩) (s.size + 16) F) := ho.code
  clear hb ho hgb hgc hcv hcv1 X4 K4 B4 D0 L4 c0 c1 b1 SE HT
  go_wp2_with fail
  refine (AN.out _).mono ?_
  rintro e v6 ⟨⟨g, gc, rfl, how⟩, hb⟩
  have B6 : Hid (Below w.heap.size w v6) := B5.out.trans (hb.mono B5.out.size)
  have O6 : Hid (Code8 v6 (some ⟨b, 0, none⟩) (s.size + 16) F) := O5.out.below hb
  have R6 : Hid (v6.ownsRow w.heap.size 5 1 (.slice (some ⟨g, 0, none⟩) 4 gc) 4 (bv 4 U)) := ownsRow_mono how B5.out.size
  have hw6 : w.heap.size ≤ v6.heap.size := B6.out.size
  clear hb how AN B5 O5 d0
  go_wp2_with (at_builtin; refine wpList_append_own _ rfl _ _ 25 rfl w.heap.size 5 i0 (.int .u8 0) 1 1 Tryd.underlying25 HI.out.1 HI.out.2.1 HI.out.2.2.1 HI.out.2.2.2 rfl (by decide) (.slice (some ⟨g, 0, none⟩) 4 gc) 4 _ rfl R6.out ⟨b, 0, none⟩ (s.size + 16) c (bv (s.size + 16) F) rfl (by rw [bv_length, Nat.mul_one]) (bv_news O6.out) (bv_one _ _) (by have := HS.out; unfold maxLen; omega) (by have := HS.out; omega) hw6 ?_)
  intro v' w7 hown hgrow hnil
  have BG : Below w.heap.size v6 w7 := grown_below R6.out hgrow hw6
  rw [EF.out, show 4 + (s.size + 16) = 20 + s.size from by omega] at hown
  obtain ⟨g2, c2, -, rfl, -⟩ := own8_of_own hown hnil
  have R7 : Hid (w7.ownsRow w.heap.size 5 1 (.slice (some ⟨g2, 0, none⟩) (20 + s.size) c2) (20 + s.size) (bv (20 + s.size) G)) := hown
  have B7 : Hid (Below w.heap.size w w7) := B6.out.trans BG
  clear hown hgrow hnil BG R6 B6 O6 EF
  go_wp2
  go_ret
  exact ⟨⟨g2, c2, rfl, R7.out⟩, B7.out⟩
end Go.Proofs.YtbecnaabmlkjjabDoor
