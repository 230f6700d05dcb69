/-
  Contracts of impl's macKey: masked, mac, newMacKey; Hmac, HkdfExtract.
-/
import Derived.Test.YtonccbgolbcjfabDoorHashed
import Derived.Test.YtonccbgolbcjfabDoorEqual
namespace Go.Proofs.YtonccbgolbcjfabDoor
open Go.ChangeShapes Go.WideShapes Go.ChangeAt Go.RowKit
theorem run_copy_leM {P : Program} (w : World) (dT sT ty elem : TypeId) (b o dLen dCap : Nat) (s : ByteArray) (cs : List Value)
    (hu : P.underlying dT = some (.slice elem)) (hs : (P.info? elem).map (·.size) = some 1) (hn : s.size ≤ dLen) (hcs : cs = s.data.toList.map (fun b => .int .u8 b.toNat))
    (hc : ∀ j, j < cs.length → (w.cell? ⟨b, o + j, none⟩).isSome = true) (hf : ∀ j, j < cs.length → w.frozen? ⟨b, o + j, none⟩ = false) :
    (Builtin.copy_ #[dT, sT] ty #[.slice (some ⟨b, o, none⟩) dLen dCap, .string s]).run P w = .ok (goInt cs.length) (w.setCells b o cs) := by
  have h1 : ∀ v ∈ cs, v.oneCell' = true := fun v hv => by
    rw [hcs] at hv
    obtain ⟨x, _, rfl⟩ := List.mem_map.1 hv
    rfl
  have hst := run_storeCells_cells (P := P) b o cs 0 w (by simpa using hc) (by simpa using hf) h1
  cases hq : P.info? elem with
  | none => simp [hq] at hs
  | some i =>
    have hl : s.data.toList.length = s.size := by simp
    have hcl : cs.length = s.size := by rw [hcs, List.length_map, hl]
    have hm : min s.size dLen = s.size := Nat.min_eq_left hn
    simp [Builtin.copy_, run_underlying hu, Builtin.lenOf, Builtin.firstCells, sizeOf, typeInfo, hq, hm]
    rw [← hcs, List.take_of_length_le (by omega), hst, hcl]
    rfl
theorem bv_textM (s : ByteArray) (n : Nat) (h : s.size = n) : bv n (strB s) = s.data.toList.map (fun b => .int .u8 b.toNat) := by
  apply List.ext_getElem
  · rw [bv_length]; simp [h]
  · intro i h1 h2
    have hi : i < n := by rwa [bv_length] at h1
    have hi' : i < s.size := by omega
    have e := bv_at (n := n) (f := strB s) hi
    rw [List.getElem?_eq_getElem h1] at e
    rw [Option.some.inj e, List.getElem_map, ← ba_get s i hi']
    simp [strB, hi']
/-- A text as bytes of its own. -/
theorem bytesOfM (s : ByteArray) (w : World) : ∃ wz gc, (convert 9 30 (.string s)).run Tryd.prog w = .ok (.slice (some ⟨w.heap.size, 0, none⟩) s.size gc) wz ∧ Code8 wz (some ⟨w.heap.size, 0, none⟩) s.size (strB s) ∧ Below w.heap.size w wz ∧ s.size ≤ gc := by
  refine ⟨_, _, run_bytes_of_string w 9 30 5 s Tryd.underlying9 Tryd.underlying30 Tryd.underlying5, code8_of (fun r hr => ?_), (Below.refl _ _).drew.alloc (Nat.le_refl _) _, grownCap_ge _ _ _ _⟩
  have hd : r < s.data.size := hr
  have hrow := bytesRow_at s (grownCap w s.size 0 5) r hd
  have hlt : r < (bytesRow s (grownCap w s.size 0 5)).size := by
    rcases Nat.lt_or_ge r (bytesRow s (grownCap w s.size 0 5)).size with h | h
    · exact h
    · rw [Array.getElem?_eq_none h] at hrow; cases hrow
  rw [Nat.zero_add]
  have e := World.cell?_alloc_mark w.drew (bytesRow s (grownCap w s.size 0 5)) 5 ((bytesRow s (grownCap w s.size 0 5)).size, (bytesRow s (grownCap w s.size 0 5)).size + 1) r
  refine e.trans ?_
  rw [hrow]
  simp [strB, hr, ByteArray.getElem_eq_getElem_data]

theorem Tryd.infoMk : (Tryd.prog.info? 58).map (fun i => (i.zero, i.size)) = some (some (.agg (Array.replicate 64 (.int .u8 0))), 64) := by kernel_rfl
theorem Tryd.zeroMk : ∀ w, (zeroValue 58).run Tryd.prog w = .ok (.agg (Array.replicate 64 (.int .u8 0))) w := (zero_of_info Tryd.infoMk).1
theorem Tryd.sizeMk : (Tryd.prog.info? 58).map (·.size) = some 64 := by kernel_rfl
set_option maxRecDepth 100000 in
set_option maxHeartbeats 1000000 in
theorem masked_any (k : Nat → Nat) (m : Nat) (hk : ∀ i, k i < 256) (hm : m < 256) (w : World) :
    Calls Tryd.prog 47 #[.agg (bA 64 k), .int .u8 (m : Int)] w fun e w' => RetB w w' e 64 (Sha.maskF k m) ∧ Below w.heap.size w w' := by
  have m64 : ∀ w : World, (Instr.makeSlice 30 (.int .i64 64) (.int .i64 64)).run Tryd.prog w = .ok (.slice (some ⟨w.heap.size, 0, none⟩) 64 64) (w.alloc (.cells (madeCells #[.int .u8 0] 64) 5)) := mkBytes 64 (by omega)
  have HK : Hid (∀ i, k i < 256) := hk
  have K0 : Hid (Row8 ((w.alloc (.cells (bA 64 k) 58)).alloc (.cells (madeCells #[.int .u8 0] 64) 5)) w.heap.size 58 64 k) := (Row8.boxedAt rfl _ _ _).alloc _
  have K1 : Hid (Row8 ((w.alloc (.cells (bA 64 k) 58)).alloc (.cells (madeCells #[.int .u8 0] 64) 5)) (w.heap.size + 1) 5 64 (fun _ => 0)) := by
    have := World.rowIs_made (w.alloc (.cells (bA 64 k) 58)) (.int .u8 0) 64 5
    rw [show (w.alloc (.cells (bA 64 k) 58)).heap.size = w.heap.size + 1 from by simp] at this
    exact this.congr (fun j hj => rfl)
  have K2 : Hid (Below w.heap.size w ((w.alloc (.cells (bA 64 k) 58)).alloc (.cells (madeCells #[.int .u8 0] 64) 5))) := ((Below.refl _ _).alloc (Nat.le_refl _) _).alloc (by simp) _
  clear hk
  generalize bA 64 k = KA at *
  go_enter Tryd.func47, Tryd.ntmps47
  go_wp2
  generalize (w.alloc (.cells KA 58)).alloc (.cells (madeCells #[.int .u8 0] 64) 5) = wz at *
  clear m64
  go_loopw [6, 10] (fun _ i wr => ∃ q : Nat, q ≤ 64 ∧ i = .int .i64 q ∧ Row8 wr w.heap.size 58 64 k ∧ Row8 wr (w.heap.size + 1) 5 64 (fun j => if j < q then Sha.maskF k m j else 0) ∧ Below w.heap.size w wr) (fun _ i _ => 64 - (intOf i).toNat)
  case atStart => exact ⟨0, by omega, rfl, K0.out, K1.out.congr (fun j hj => by simp), K2.out⟩
  case round =>
    clear K0 K1 K2
    obtain ⟨q, hq, rfl, h0, h1, hb⟩ := hrel
    have H0 : Hid (Row8 wr w.heap.size 58 64 k) := h0
    have H1 : Hid (Row8 wr (w.heap.size + 1) 5 64 (fun j => if j < q then Sha.maskF k m j else 0)) := h1
    have HB : Hid (Below w.heap.size w wr) := hb
    by_cases hlt : q < 64
    · have hlt' : (q : Int) < 64 := by omega
      have c0 : wr.cell? ⟨w.heap.size, q, none⟩ = some (.int .u8 ((k q : Nat) : Int)) := World.rowIs.cell h0 hlt
      have c1 := World.rowIs.cell h1 hlt
      have f1 := World.rowIs.frozen h1 q
      have ex := e8_xor (k q) m (HK.out q) hm
      have HV : Hid (Sha.maskF k m q = k q ^^^ m) := rfl
      generalize k q ^^^ m = X at *
      generalize k q = kq at *
      clear h0 h1 hb
      go_wp2
      go_roundw
      case rel =>
        refine ⟨q + 1, by omega, by go_num, H0.out.other (by show w.heap.size ≠ w.heap.size + 1; omega) _, ?_, HB.out.setCell (by show w.heap.size ≤ w.heap.size + 1; omega) _⟩
        exact (H1.out.set q X).congr (fun j hj => by
          by_cases e : j = q
          · subst e; rw [if_pos rfl, if_pos (by omega)]; exact HV.out.symm
          · simp only [if_neg e]
            by_cases h1 : j < q
            · rw [if_pos h1, if_pos (by omega)]
            · rw [if_neg h1, if_neg (by omega)])
      case measure => simp [intOf]; omega
    · have H2 : Hid (Own8 wr (w.heap.size + 1) 64 (Sha.maskF k m)) := Own8.ofRow (h1.congr (fun j hj => by rw [if_pos (by omega)]))
      have hlt' : ¬ (q : Int) < 64 := by omega
      clear h0 h1 hb H0 H1
      go_wp2
      go_ret
      exact ⟨⟨_, _, ⟨by omega, Nat.le_refl _⟩, rfl, H2.out⟩, HB.out⟩
/-- Two slices put together and hashed. -/
theorem cat2 (n0 n1 : Nat) (f0 f1 : Nat → Nat) : catF (fun k => if k = 0 then n0 else n1) (fun k => if k = 0 then f0 else f1) 2 = Sha.cat n0 f0 f1 := by
  show Sha.cat (0 + n0) (Sha.cat 0 (fun _ => 0) f0) f1 = _
  rw [Nat.zero_add]
  funext j
  unfold Sha.cat
  simp
theorem cell2 (w : World) (x y : Value) (t : TypeId) (k : Nat) (hk : k < 2) : (w.alloc (.cells #[x, y] t)).cell? ⟨w.heap.size, k, none⟩ = some (if k = 0 then x else y) := by
  rcases (show k = 0 ∨ k = 1 by omega) with rfl | rfl <;> simp
theorem concat2_any (b0 o0 n0 c0 b1 o1 n1 c1 : Nat) (f0 f1 : Nat → Nat) (h1 : 1 ≤ n0) (h2 : n0 + n1 ≤ 2000000) (w : World) (k0 : Code8 w (some ⟨b0, o0, none⟩) n0 f0) (k1 : Code8 w (some ⟨b1, o1, none⟩) n1 f1) :
    Calls Tryd.prog 39 #[.slice (some ⟨w.heap.size, 0, none⟩) 2 2] (w.alloc (.cells #[.slice (some ⟨b0, o0, none⟩) n0 c0, .slice (some ⟨b1, o1, none⟩) n1 c1] 30)) fun e w' => (∃ g c, e = .returned (.slice (some ⟨g, 0, none⟩) (n0 + n1) c) ∧ Own8 w' g (n0 + n1) (Sha.cat n0 f0 f1)) ∧ Below w.heap.size w w' := by
  have hA : Below w.heap.size w (w.alloc (.cells #[.slice (some ⟨b0, o0, none⟩) n0 c0, .slice (some ⟨b1, o1, none⟩) n1 c1] 30)) := (Below.refl _ _).alloc (Nat.le_refl _) _
  have P : Parts (w.alloc (.cells #[.slice (some ⟨b0, o0, none⟩) n0 c0, .slice (some ⟨b1, o1, none⟩) n1 c1] 30)) w.heap.size 2 (fun k => if k = 0 then some ⟨b0, o0, none⟩ else some ⟨b1, o1, none⟩) (fun k => if k = 0 then n0 else n1) (fun k => if k = 0 then c0 else c1) (fun k => if k = 0 then f0 else f1) := by
    refine ⟨fun k hk => ?_, fun k hk => ?_, fun k hk => ?_⟩
    · rw [cell2 _ _ _ _ k hk]
      rcases (show k = 0 ∨ k = 1 by omega) with rfl | rfl <;> simp
    · rcases (show k = 0 ∨ k = 1 by omega) with rfl | rfl
      · exact k0.below hA
      · exact k1.below hA
    · rcases (show k = 0 ∨ k = 1 by omega) with rfl | rfl
      · exact .inr ⟨_, _, rfl⟩
      · exact .inr ⟨_, _, rfl⟩
  have hN : catN (fun k => if k = 0 then n0 else n1) 2 = n0 + n1 := by show 0 + n0 + n1 = _; omega
  have := concatN_any w.heap.size 2 _ _ _ _ (by omega) (by rw [hN]; omega) (by rw [hN]; omega) _ P
  rw [hN, cat2] at this
  refine this.mono ?_
  rintro e w' ⟨⟨g, cc, rfl, ho⟩, hb'⟩
  obtain ⟨g', c', _, e', h8⟩ := own8_of_own ho (by intro e; cases e)
  cases e'
  exact ⟨⟨g, cc, rfl, h8⟩, hA.trans (hb'.mono hA.size)⟩
set_option maxRecDepth 100000 in
set_option maxHeartbeats 2000000 in
theorem mac_any (k : Nat → Nat) (hk : ∀ i, k i < 256) (b o n c : Nat) (f : Nat → Nat) (hf : ∀ i, f i < 256) (hn : n ≤ 1100000) (w : World) (h : Code8 w (some ⟨b, o, none⟩) n f) (ht : Tabs w) :
    Calls Tryd.prog 35 #[.agg (bA 64 k), .slice (some ⟨b, o, none⟩) n c] w fun e w' => e = .returned (.string (kstr (Sha.mac k n f) 0 32)) ∧ Below w.heap.size w w' := by
  have MA : Hid (∀ (m : Nat) (w : World), m < 256 → Calls Tryd.prog 47 #[.agg (bA 64 k), .int .u8 (m : Int)] w fun e w' => RetB w w' e 64 (Sha.maskF k m) ∧ Below w.heap.size w w') := fun m w hm => masked_any k m hk hm w
  have M36 : Hid (∀ w : World, Calls Tryd.prog 47 #[.agg (bA 64 k), .int .u8 54] w fun e w' => RetB w w' e 64 (Sha.maskF k 54) ∧ Below w.heap.size w w') := fun w => MA.out 54 w (by omega)
  have M5c : Hid (∀ w : World, Calls Tryd.prog 47 #[.agg (bA 64 k), .int .u8 92] w fun e w' => RetB w w' e 64 (Sha.maskF k 92) ∧ Below w.heap.size w w') := fun w => MA.out 92 w (by omega)
  have L36 : ∀ j, Sha.maskF k 54 j < 256 := Sha.maskF_lt hk (by omega)
  have L5c : ∀ j, Sha.maskF k 92 j < 256 := Sha.maskF_lt hk (by omega)
  have HC : Hid (Code8 w (some ⟨b, o, none⟩) n f) := h
  have HT : Hid (Tabs w) := ht
  obtain ⟨IN, hIN⟩ : ∃ IN, IN = hashS (64 + n) (Sha.cat 64 (Sha.maskF k 54) f) := ⟨_, rfl⟩
  have hINs : IN.size = 32 := by rw [hIN]; exact hashS_size _ _
  have HI1 : Hid (∀ (g c : Nat) (w : World), Own8 w g (64 + n) (Sha.cat 64 (Sha.maskF k 54) f) → Tabs w → Calls Tryd.prog 46 #[.slice (some ⟨g, 0, none⟩) (64 + n) c] w fun e w' => e = .returned (.string IN) ∧ Below w.heap.size w w') := fun g c w h8 ht => by
    rw [hIN]
    exact hashed_any g 0 (64 + n) c _ (Sha.cat_lt L36 hf) (by omega) w h8.code ht
  have EQ : Hid (kstr (Sha.mac k n f) 0 32 = hashS (64 + 32) (Sha.cat 64 (Sha.maskF k 92) (strB IN))) := by
    show kstr (Sha.mac k n f) 0 32 = kstr (Sha.hash (64 + 32) (Sha.cat 64 (Sha.maskF k 92) (strB IN))) 0 32
    have e2 : Sha.fullF 96 (Sha.cat 64 (Sha.maskF k 92) (Sha.hash (64 + n) (Sha.cat 64 (Sha.maskF k 54) f))) = Sha.fullF 96 (Sha.cat 64 (Sha.maskF k 92) (strB IN)) := by
      funext j
      unfold Sha.fullF
      by_cases hj : j < 96
      · rw [if_pos hj, if_pos hj]
        unfold Sha.cat
        by_cases h64 : j < 64
        · rw [if_pos h64, if_pos h64]
        · rw [if_neg h64, if_neg h64, hIN]
          unfold hashS
          rw [strB_kstr _ 0 32 _ (by rw [Nat.zero_add]; exact Sha.hash_lt _ _ _) (by omega), Nat.zero_add]
          rfl
      · rw [if_neg hj, if_neg hj]
    show kstr (Sha.hash 96 (Sha.cat 64 (Sha.maskF k 0x5c) (Sha.hash (64 + n) (Sha.cat 64 (Sha.maskF k 0x36) f)))) 0 32 = _
    unfold Sha.hash at e2 ⊢
    rw [e2]
  have HI2 : Hid (∀ (g c : Nat) (w : World), Own8 w g (64 + 32) (Sha.cat 64 (Sha.maskF k 92) (strB IN)) → Tabs w → Calls Tryd.prog 46 #[.slice (some ⟨g, 0, none⟩) (64 + 32) c] w fun e w' => e = .returned (.string (kstr (Sha.mac k n f) 0 32)) ∧ Below w.heap.size w w') := fun g c w h8 ht => by
    rw [EQ.out]
    exact hashed_any g 0 (64 + 32) c _ (Sha.cat_lt L5c (strB_lt IN)) (by omega) w h8.code ht
  have R0 : Hid (Row8 (w.alloc (.cells (bA 64 k) 58)) w.heap.size 58 64 k) := Row8.boxedAt rfl _ _ _
  have B0 : Hid (Below w.heap.size w (w.alloc (.cells (bA 64 k) 58))) := (Below.refl _ _).alloc (Nat.le_refl _) _
  have EA : Hid ((bv 64 k).toArray = bA 64 k) := rfl
  generalize kstr (Sha.mac k n f) 0 32 = RS at *
  generalize hF1 : Sha.maskF k 54 = F1 at *
  generalize hF2 : Sha.maskF k 92 = F2 at *
  clear h ht hf hk hIN EQ MA L36 L5c hF1 hF2
  generalize bA 64 k = KA at *
  go_enter Tryd.func35, Tryd.ntmps35
  go_upto_region 1 with fail
  generalize w.alloc (.cells KA 58) = w0 at *
  refine wp_region_lit ?_
  refine wpList_load_mid rfl 58 (.tmp 2) rfl w.heap.size 0 rfl (bv 64 k) _ R0.out.range Tryd.underlying58 rfl (by rw [bv_length]; exact Tryd.sizeMk) ?_
  rw [EA.out]
  go_wp2_with fail
  refine (M36.out _).mono ?_
  rintro e w1 ⟨⟨b1, c1, ⟨hb1, hc1⟩, rfl, ho1⟩, hB1⟩
  have HO1 : Hid (Own8 w1 b1 64 F1) := ho1
  have HB1 : Hid (Below w.heap.size w w1) := B0.out.trans (hB1.mono B0.out.size)
  have R1 : Hid (Row8 w1 w.heap.size 58 64 k) := R0.out.below hB1
  have HC1 : Hid (Code8 w1 (some ⟨b, o, none⟩) n f) := HC.out.below HB1.out
  have HT1 : Hid (Tabs w1) := HT.out.below HB1.out
  clear ho1 hB1 R0 B0 HC HT M36
  have CC1 : Hid (Calls Tryd.prog 39 #[.slice (some ⟨w1.heap.size, 0, none⟩) 2 2] (w1.alloc (.cells #[.slice (some ⟨b1, 0, none⟩) 64 c1, .slice (some ⟨b, o, none⟩) n c] 30)) fun e w' => (∃ g c, e = .returned (.slice (some ⟨g, 0, none⟩) (64 + n) c) ∧ Own8 w' g (64 + n) (Sha.cat 64 F1 f)) ∧ Below w1.heap.size w1 w') := concat2_any b1 0 64 c1 b o n c F1 f (by omega) (by omega) w1 HO1.out.code HC1.out
  go_wp2_with fail
  refine CC1.out.mono ?_
  rintro e w2 ⟨⟨g2, c2, rfl, ho2⟩, hB2⟩
  have HO2 : Hid (Own8 w2 g2 (64 + n) (Sha.cat 64 F1 f)) := ho2
  have HB2 : Hid (Below w.heap.size w w2) := HB1.out.trans (hB2.mono HB1.out.size)
  have R2 : Hid (Row8 w2 w.heap.size 58 64 k) := R1.out.below hB2
  have HT2 : Hid (Tabs w2) := HT1.out.below hB2
  clear ho2 hB2 R1 HB1 HC1 HT1 HO1 CC1
  go_wp2_with fail
  refine (HI1.out g2 c2 _ HO2.out HT2.out).mono ?_
  rintro e w3 ⟨rfl, hB3⟩
  have HB3 : Hid (Below w.heap.size w w3) := HB2.out.trans (hB3.mono HB2.out.size)
  have R3 : Hid (Row8 w3 w.heap.size 58 64 k) := R2.out.below hB3
  have HT3 : Hid (Tabs w3) := HT2.out.below hB3
  clear hB3 R2 HB2 HT2 HO2 HI1
  go_upto_region 2 with fail
  refine wp_region_lit ?_
  refine wpList_load_mid rfl 58 (.tmp 2) rfl w.heap.size 0 rfl (bv 64 k) _ R3.out.range Tryd.underlying58 rfl (by rw [bv_length]; exact Tryd.sizeMk) ?_
  rw [EA.out]
  go_wp2_with fail
  refine (M5c.out _).mono ?_
  rintro e w4 ⟨⟨b4, c4, ⟨hb4, hc4⟩, rfl, ho4⟩, hB4⟩
  have HO4 : Hid (Own8 w4 b4 64 F2) := ho4
  have HB4 : Hid (Below w.heap.size w w4) := HB3.out.trans (hB4.mono HB3.out.size)
  have HT4 : Hid (Tabs w4) := HT3.out.below hB4
  clear ho4 hB4 R3 HB3 HT3 M5c EA
  obtain ⟨w5, c5, hcv, hk5, hB5, _⟩ := bytesOfM IN w4
  rw [hINs] at hcv hk5
  have HK5 : Hid (Code8 w5 (some ⟨w4.heap.size, 0, none⟩) 32 (strB IN)) := hk5
  have HO5 : Hid (Own8 w5 b4 64 F2) := HO4.out.below hB5
  have HB5 : Hid (Below w.heap.size w w5) := HB4.out.trans (hB5.mono HB4.out.size)
  have HT5 : Hid (Tabs w5) := HT4.out.below hB5
  clear hk5 hB5 HO4 HB4 HT4
  generalize w4.heap.size = b5 at *
  have CC2 : Hid (Calls Tryd.prog 39 #[.slice (some ⟨w5.heap.size, 0, none⟩) 2 2] (w5.alloc (.cells #[.slice (some ⟨b4, 0, none⟩) 64 c4, .slice (some ⟨b5, 0, none⟩) 32 c5] 30)) fun e w' => (∃ g c, e = .returned (.slice (some ⟨g, 0, none⟩) (64 + 32) c) ∧ Own8 w' g (64 + 32) (Sha.cat 64 F2 (strB IN))) ∧ Below w5.heap.size w5 w') := concat2_any b4 0 64 c4 b5 0 32 c5 F2 (strB IN) (by omega) (by omega) w5 HO5.out.code HK5.out
  go_wp2_with fail
  refine CC2.out.mono ?_
  rintro e w6 ⟨⟨g6, c6, rfl, ho6⟩, hB6⟩
  have HO6 : Hid (Own8 w6 g6 (64 + 32) (Sha.cat 64 F2 (strB IN))) := ho6
  have HB6 : Hid (Below w.heap.size w w6) := HB5.out.trans (hB6.mono HB5.out.size)
  have HT6 : Hid (Tabs w6) := HT5.out.below hB6
  clear ho6 hB6 HK5 HO5 HB5 HT5 CC2 hcv
  go_wp2_with fail
  refine (HI2.out g6 c6 _ HO6.out HT6.out).mono ?_
  rintro e w7 ⟨rfl, hB7⟩
  have HB7 : Hid (Below w.heap.size w w7) := HB6.out.trans (hB7.mono HB6.out.size)
  clear hB7 HO6 HB6 HT6 HI2
  go_wp2
  go_ret
  exact ⟨rfl, HB7.out⟩
set_option maxRecDepth 100000 in
set_option maxHeartbeats 2000000 in
theorem newMacKey_any (b o n c : Nat) (f : Nat → Nat) (hf : ∀ i, f i < 256) (hn : n ≤ 100000) (w : World) (h : Code8 w (some ⟨b, o, none⟩) n f) (ht : Tabs w) :
    Calls Tryd.prog 34 #[.slice (some ⟨b, o, none⟩) n c] w fun e w' => e = .returned (.agg (bA 64 (Sha.keyF n f))) ∧ Below w.heap.size w w' := by
  have z1 := Tryd.zeroMk
  have SZ : Hid ((Tryd.prog.info? 5).map (·.size) = some 1) := size8
  have Z1 : Hid (Row8 ((w.alloc (.cells (Array.replicate 64 (.int .u8 0)) 58)).alloc (.cells (Array.replicate 64 (.int .u8 0)) 58)) w.heap.size 58 64 (fun _ => 0)) := (Row8.zerosAt rfl _ _).alloc _
  have Z2 : Hid (Row8 ((w.alloc (.cells (Array.replicate 64 (.int .u8 0)) 58)).alloc (.cells (Array.replicate 64 (.int .u8 0)) 58)) (w.heap.size + 1) 58 64 (fun _ => 0)) := Row8.zerosAt (by simp) _ _
  have B3 : Hid (Below w.heap.size w ((w.alloc (.cells (Array.replicate 64 (.int .u8 0)) 58)).alloc (.cells (Array.replicate 64 (.int .u8 0)) 58))) := ((Below.refl _ _).alloc (Nat.le_refl _) _).alloc (by simp) _
  have HC : Hid (Code8 w (some ⟨b, o, none⟩) n f) := h
  have HT : Hid (Tabs w) := ht
  have HF : Hid (∀ i, f i < 256) := hf
  clear h ht hf
  generalize hG : Sha.keyF n f = G at *
  by_cases hlt : 64 < n
  · have x1 : (64 : Int) < (n : Int) := by omega
    obtain ⟨H, hH⟩ : ∃ H, H = hashS n f := ⟨_, rfl⟩
    have hHs : H.size = 32 := by rw [hH]; exact hashS_size _ _
    have HE : Hid (∀ j, j < 64 → G j = if j < 32 then strB H j else 0) := fun j hj => by
      rw [← hG, hH]
      unfold Sha.keyF
      rw [if_pos hlt]
      by_cases h32 : j < 32
      · rw [if_pos h32, if_pos h32]
        unfold hashS
        rw [strB_kstr _ 0 32 _ (by rw [Nat.zero_add]; exact Sha.hash_lt _ _ _) h32, Nat.zero_add]
      · rw [if_neg h32, if_neg h32]
    have HA : Hid (∀ w : World, Code8 w (some ⟨b, o, none⟩) n f → Tabs w → Calls Tryd.prog 46 #[.slice (some ⟨b, o, none⟩) n c] w fun e w' => e = .returned (.string H) ∧ Below w.heap.size w w') := fun w h ht => by
      rw [hH]
      exact hashed_any b o n c f HF.out (by omega) w h ht
    clear hG hH
    go_enter Tryd.func34, Tryd.ntmps34
    go_upto_region 3 with fail
    generalize (w.alloc (.cells (Array.replicate 64 (.int .u8 0)) 58)).alloc (.cells (Array.replicate 64 (.int .u8 0)) 58) = wz at *
    refine wp_region_noPanic ?_
    refine wp_region_held_drew (S := fun _ => True) (by kernel_rfl) trivial (fun _ => ?_)
    refine wpAnyH_take (i := 0) (v := .slice (some ⟨w.heap.size + 1, 0, none⟩) 64 64) rfl (by kernel_rfl) (by kernel_rfl) (by kernel_rfl) (fun _ _ _ h => h) (Or.inl ⟨by rfl, ?_⟩) trivial ?_
    · intro wq hSq; go_simp
    change wpAnyH _ _ _ _ _ _ _ { tmps := #[_, _, _, _, _, _, _, _, _, _, _, _, _, _, _], defers := [] } _
    refine wpAnyH_take (i := 1) (v := .slice (some ⟨b, o, none⟩) n c) rfl (by kernel_rfl) (by kernel_rfl) (by kernel_rfl) (fun _ _ _ h => h) (Or.inl ⟨by rfl, ?_⟩) trivial ?_
    · intro wq hSq; go_simp
    change wpAnyH _ _ _ _ _ _ _ { tmps := #[_, _, _, _, _, _, _, _, _, _, _, _, _, _, _], defers := [] } _
    refine wpAnyH_ready (rs := [2]) (by kernel_rfl) (by simp) ?_
    refine AllReadyH.cons rfl (fun KK hK => ?_) AllReadyH.nil
    go_simp
    refine (HA.out _ (HC.out.below B3.out.drew) (HT.out.below B3.out.drew)).mono ?_
    rintro e w2 ⟨rfl, hb2⟩
    have Z12 : Hid (Row8 w2 w.heap.size 58 64 (fun _ => 0)) := Row8.below (w := wz.drew) Z1.out hb2
    have Z22 : Hid (Row8 w2 (w.heap.size + 1) 58 64 (fun _ => 0)) := Row8.below (w := wz.drew) Z2.out hb2
    have B32 : Hid (Below w.heap.size w w2) := B3.out.drew.trans (hb2.mono B3.out.drew.size)
    refine hK.out _ _ trivial (fun _ => ?_)
    clear hK KK hb2 Z1 Z2 B3 HA HC HT
    change wpAnyH _ _ _ _ _ _ _ { tmps := #[_, _, _, _, _, _, _, _, _, _, _, _, _, _, _], defers := [] } _
    have CP : ∀ ty, (Builtin.copy_ #[30, 9] ty #[.slice (some ⟨w.heap.size + 1, 0, none⟩) 64 64, .string H]).run Tryd.prog w2 = .ok (goInt 32) (w2.setCells (w.heap.size + 1) 0 (bv 32 (strB H))) := fun ty => by
      have h := run_copy_leM (P := Tryd.prog) w2 30 9 ty 5 (w.heap.size + 1) 0 64 64 H (bv 32 (strB H)) Tryd.underlying30 SZ.out (by omega) (bv_textM H 32 hHs) (fun j hj => by rw [bv_length] at hj; exact (Z22.out.there j (by omega)).1) (fun j hj => by rw [bv_length] at hj; exact (Z22.out.there j (by omega)).2)
      rw [bv_length] at h
      exact h
    have R2 : Hid (Row8 (w2.setCells (w.heap.size + 1) 0 (bv 32 (strB H))) (w.heap.size + 1) 58 64 G) := (rowIs_setCells (bv 32 (strB H)) 0 w2 _ Z22.out).congr (fun i hi => by
      rw [bv_length, HE.out i hi]
      by_cases h : i < 32
      · rw [if_pos (by omega), Nat.sub_zero, List.getD_eq_getElem?_getD, bv_at h, if_pos h]; rfl
      · rw [if_neg (by omega), if_neg h])
    have R1 : Hid (Row8 (w2.setCells (w.heap.size + 1) 0 (bv 32 (strB H))) w.heap.size 58 64 (fun _ => 0)) := Z12.out.storedOther (by omega) _ _
    have B4 : Hid (Below w.heap.size w (w2.setCells (w.heap.size + 1) 0 (bv 32 (strB H)))) := below_setCells (by omega) _ _ _ B32.out
    refine wpAnyH_ready (rs := [3]) (by kernel_rfl) (by simp) ?_
    refine AllReadyH.cons rfl (fun KK hK => ?_) AllReadyH.nil
    go_simp
    refine hK.out _ _ trivial (fun _ => ?_)
    clear hK KK CP Z12 Z22 B32
    generalize w2.setCells (w.heap.size + 1) 0 (bv 32 (strB H)) = wy at *
    change wpAnyH _ _ _ _ _ _ _ { tmps := #[_, _, _, _, _, _, _, _, _, _, _, _, _, _, _], defers := [] } _
    refine wpAnyH_done (by kernel_rfl) ?_ _
    refine NoPanic.normal ?_
    go_upto_region 5 with fail
    refine wp_region_lit ?_
    refine wpList_load_mid rfl 58 (.tmp 3) rfl (w.heap.size + 1) 0 rfl (bv 64 G) _ R2.out.range Tryd.underlying58 rfl (by rw [bv_length]; exact Tryd.sizeMk) ?_
    refine wpList_store_mid rfl 58 (.tmp 2) (.tmp 14) rfl w.heap.size 0 (bA 64 G) rfl rfl (by rw [bA_size]; exact R1.out.there) (by rw [bA_size]; exact Tryd.sizeMk) (bA_one _ _) ?_
    rw [bA_toList]
    have L : Hid ((loadVar 58 ⟨w.heap.size, 0, none⟩).run Tryd.prog (wy.setCells (w.heap.size) 0 (bv 64 G)) = .ok (.agg (bA 64 G)) (wy.setCells (w.heap.size) 0 (bv 64 G))) := (R1.out.stored _).load Tryd.underlying58 rfl Tryd.sizeMk
    have B : Hid (Below w.heap.size w (wy.setCells (w.heap.size) 0 (bv 64 G))) := below_setCells (Nat.le_refl _) _ _ _ B4.out
    have eA : (bv 64 G).toArray = bA 64 G := rfl
    rw [eA]
    generalize wy.setCells (w.heap.size) 0 (bv 64 G) = wf at *
    generalize hA : bA 64 G = AA at *
    have HA : Hid (bA 64 G = AA) := hA
    clear hA eA
    go_wp2
    rw [HA.out]
    exact bodyPost_ret (v := .agg AA) (results_cell_one (b := w.heap.size) (o := 0) Tryd.results34 _ _ _ rfl L.out) rfl ⟨rfl, B.out⟩
  · have x1 : ¬ (64 : Int) < (n : Int) := by omega
    have HE : Hid (∀ j, j < 64 → G j = if j < n then f j else 0) := fun j hj => by
      rw [← hG]
      unfold Sha.keyF
      rw [if_neg hlt]
    clear hG
    go_enter Tryd.func34, Tryd.ntmps34
    go_upto_region 4 with fail
    generalize (w.alloc (.cells (Array.replicate 64 (.int .u8 0)) 58)).alloc (.cells (Array.replicate 64 (.int .u8 0)) 58) = wz at *
    have CP : ∀ ty, (Builtin.copy_ #[30, 30] ty #[.slice (some ⟨w.heap.size + 1, 0, none⟩) 64 64, .slice (some ⟨b, o, none⟩) n c]).run Tryd.prog wz = .ok (goInt n) (wz.setCells (w.heap.size + 1) 0 (bv n f)) := fun ty => by
      have h := run_copy_cells (P := Tryd.prog) wz 30 30 ty 5 (w.heap.size + 1) 0 64 64 ⟨b, o, none⟩ n c (bv n f) Tryd.underlying30 SZ.out (by rw [bv_length]; exact (Nat.min_eq_left (by omega)).symm) (bv_news (HC.out.below B3.out)) (fun j hj => by rw [bv_length] at hj; exact (Z2.out.there j (by omega)).1) (fun j hj => by rw [bv_length] at hj; exact (Z2.out.there j (by omega)).2) (bv_one _ _)
      rw [bv_length] at h
      exact h
    have R2 : Hid (Row8 (wz.setCells (w.heap.size + 1) 0 (bv n f)) (w.heap.size + 1) 58 64 G) := (rowIs_setCells (bv n f) 0 wz _ Z2.out).congr (fun i hi => by
      rw [bv_length, HE.out i hi]
      by_cases h : i < n
      · rw [if_pos (by omega), Nat.sub_zero, List.getD_eq_getElem?_getD, bv_at h, if_pos h]; rfl
      · rw [if_neg (by omega), if_neg h])
    have R1 : Hid (Row8 (wz.setCells (w.heap.size + 1) 0 (bv n f)) w.heap.size 58 64 (fun _ => 0)) := Z1.out.storedOther (by omega) _ _
    have B4 : Hid (Below w.heap.size w (wz.setCells (w.heap.size + 1) 0 (bv n f))) := below_setCells (by omega) _ _ _ B3.out
    generalize wz.setCells (w.heap.size + 1) 0 (bv n f) = wy at *
    clear Z1 Z2 B3
    go_upto_region 5 with fail
    refine wp_region_lit ?_
    refine wpList_load_mid rfl 58 (.tmp 3) rfl (w.heap.size + 1) 0 rfl (bv 64 G) _ R2.out.range Tryd.underlying58 rfl (by rw [bv_length]; exact Tryd.sizeMk) ?_
    refine wpList_store_mid rfl 58 (.tmp 2) (.tmp 14) rfl w.heap.size 0 (bA 64 G) rfl rfl (by rw [bA_size]; exact R1.out.there) (by rw [bA_size]; exact Tryd.sizeMk) (bA_one _ _) ?_
    rw [bA_toList]
    have L : Hid ((loadVar 58 ⟨w.heap.size, 0, none⟩).run Tryd.prog (wy.setCells (w.heap.size) 0 (bv 64 G)) = .ok (.agg (bA 64 G)) (wy.setCells (w.heap.size) 0 (bv 64 G))) := (R1.out.stored _).load Tryd.underlying58 rfl Tryd.sizeMk
    have B : Hid (Below w.heap.size w (wy.setCells (w.heap.size) 0 (bv 64 G))) := below_setCells (Nat.le_refl _) _ _ _ B4.out
    have eA : (bv 64 G).toArray = bA 64 G := rfl
    rw [eA]
    generalize wy.setCells (w.heap.size) 0 (bv 64 G) = wf at *
    generalize hA : bA 64 G = AA at *
    have HA : Hid (bA 64 G = AA) := hA
    clear hA eA
    go_wp2
    rw [HA.out]
    exact bodyPost_ret (v := .agg AA) (results_cell_one (b := w.heap.size) (o := 0) Tryd.results34 _ _ _ rfl L.out) rfl ⟨rfl, B.out⟩
/-- The code of n bytes under a key of m, as a text. -/
def macS (m : Nat) (g : Nat → Nat) (n : Nat) (f : Nat → Nat) : ByteArray := kstr (Sha.mac (Sha.keyF m g) n f) 0 32
theorem macS_size (m : Nat) (g : Nat → Nat) (n : Nat) (f : Nat → Nat) : (macS m g n f).size = 32 := kstr_size _ _ _
end Go.Proofs.YtonccbgolbcjfabDoor
