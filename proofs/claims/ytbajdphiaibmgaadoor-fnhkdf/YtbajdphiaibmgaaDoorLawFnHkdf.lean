/-
  The law FnHkdf: what is drawn out of a secret is the beginning of what more is drawn out of it.
-/
import Derived.Test.YtbajdphiaibmgaaDoorLawHkdf
import Derived.Test.YtbajdphiaibmgaaDoorLawHash
import Derived.Test.YtbajdphiaibmgaaDoorHex
import Derived.Test.YtbajdphiaibmgaaDoorDraw
namespace Go.Proofs.YtbajdphiaibmgaaDoor
open Go.ChangeShapes Go.WideShapes Go.ChangeAt Go.RowKit
theorem isRow_belowH {w w' : World} {a : Option Addr} {len cap : Nat} {zs : List Int} (h : IsRow .u8 w a len cap zs) (hb : Below w.heap.size w w') : IsRow .u8 w' a len cap zs := by
  rcases h with h | ⟨x, rfl, hl, hm, hz, hcell, hwz⟩
  · exact .inl h
  · exact .inr ⟨x, rfl, hl, hm, hz, fun i hi => by
      have := hcell i hi
      rw [hb.cell (strBlock this)]; exact this, hwz⟩
def infoF (i : Nat) : Nat := if i = 0 then 105 else if i = 1 then 110 else if i = 2 then 102 else 111
theorem infoF_lt (i : Nat) : infoF i < 256 := by unfold infoF; split; omega; split; omega; split <;> omega
theorem conv_row (w : World) (C : Array Value) (n c : Nat) : (convert 22 22 (.slice (some ⟨w.heap.size, 0, none⟩) n c)).run Tryd.prog (w.alloc (.cells C 5)) = .ok (.slice (some ⟨w.heap.size, 0, none⟩) n c) (w.alloc (.cells C 5 (C.size, C.size + 1))) := by
  have hsh : (w.alloc (.cells C 5)).shape? w.heap.size = some (5, C.size) := by
    have : (w.alloc (.cells C 5)).heap[w.heap.size]? = some (.cells C 5) := by
      show (w.heap.push (.cells C 5))[w.heap.size]? = _
      simp
    unfold World.shape?
    rw [this]
  have hfr : (w.alloc (.cells C 5)).freeze ⟨w.heap.size, C.size, none⟩ 1 = w.alloc (.cells C 5 (C.size, C.size + 1)) := by
    have hm : ∀ (a : Array Obj) (x : Obj) (f : Obj → Obj), (a.push x).modify a.size f = a.push (f x) := by
      intro a x f
      apply Array.ext
      · simp
      · intro i h1 h2
        simp only [Array.getElem_modify, Array.getElem_push]
        by_cases h : a.size = i
        · subst h
          simp
        · have hi : i < a.size := by simp at h1; omega
          simp [h, hi]
    unfold World.freeze
    rw [if_neg (by decide)]
    show ({ w.alloc (.cells C 5) with heap := (w.heap.push (.cells C 5)).modify w.heap.size _ } : World) = _
    rw [hm]
    rfl
  simp [convert, run_underlying Tryd.underlying22, run_underlying Tryd.underlying5, markStringish, hsh]
  exact hfr
theorem info_code (w : World) : Code8 (w.alloc (.cells #[.int .u8 105, .int .u8 110, .int .u8 102, .int .u8 111] 5 (4, 5))) (some ⟨w.heap.size, 0, none⟩) 4 infoF := code8_of (fun i hi => by
  rw [Nat.zero_add, World.cell?_alloc_mark]
  rcases (show i = 0 ∨ i = 1 ∨ i = 2 ∨ i = 3 by omega) with rfl | rfl | rfl | rfl <;> (simp [infoF]))
theorem drawS_part (k : ByteArray) (m : Nat) (g : Nat → Nat) (n p : Nat) (h : n ≤ p) : (drawS k m g p).extract 0 n = drawS k m g n := by
  unfold drawS
  have := kstr_extract (kstr (Sha.drawnF (Sha.keyF k.size (strB k)) m g) 0 p) 0 n (by rw [kstr_size]; omega)
  rw [Nat.zero_add] at this
  rw [this]
  exact kstr_congr (fun i hi => by rw [Nat.zero_add, strB_kstr _ 0 p i (by rw [Nat.zero_add]; exact Sha.drawnF_lt _ _ _ _) (by omega), Nat.zero_add])
theorem drawS_size (k : ByteArray) (m : Nat) (g : Nat → Nat) (n : Nat) : (drawS k m g n).size = n := kstr_size _ _ _
theorem specHex_yesH (t : ByteArray) (h : t.size ≤ 65536) (w : World) :
    Calls Tryd.prog 15 #[.string t] w fun e w' => e = .returned (.tuple #[.string (kstr (hexF t) 0 (2 * t.size)), .int .i64 0]) ∧ Below w.heap.size w w' := by
  have e1 : ¬ (65536 : Int) < t.size := by omega
  have HX : Hid (∀ w : World, Calls Tryd.prog 30 #[.string t] w fun e w' => e = .returned (.string (kstr (hexF t) 0 (2 * t.size))) ∧ Below w.heap.size w w') := l03Hex_any t h
  generalize kstr (hexF t) 0 (2 * t.size) = X at *
  go_enter Tryd.func15, Tryd.ntmps15
  go_wp2_with fail
  refine (HX.out _).mono ?_
  rintro e w1 ⟨rfl, hb⟩
  have B1 : Hid (Below w.heap.size w w1) := hb
  clear hb
  go_wp2
  go_ret2
  exact ⟨rfl, B1.out⟩
set_option maxRecDepth 100000 in
set_option maxHeartbeats 8000000 in
theorem law_fnHkdf (a1 a2 : Option Addr) (N1 C1 N2 C2 : Nat) (zs1 zs2 : List Int) (w : World) (h1 : IsRow .u8 w a1 N1 C1 zs1) (h2 : IsRow .u8 w a2 N2 C2 zs2) (ht : Tabs w) :
    Calls Tryd.prog 3 #[.slice a1 N1 C1, .slice a2 N2 C2] w fun e w' => e = .returned (.bool true) ∧ Below w.heap.size w w' := by
  by_cases h0 : N1 ≤ 1048576 ∧ N2 ≤ 1048576
  · obtain ⟨h01, h02⟩ := h0
    have e01 : ¬ (1048576 : Int) < (N1 : Int) := by omega
    have e02 : ¬ (1048576 : Int) < (N2 : Int) := by omega
    obtain ⟨z1, hz1, hc1⟩ := code8_of_row h1
    obtain ⟨z2, hz2, hc2⟩ := code8_of_row h2
    have B1 : Hid (∀ w : World, Code8 w a1 N1 z1 → Calls Tryd.prog 7 #[.slice a1 N1 C1, .int .i64 40] w fun e w' => SomeOwn w.heap.size w' e 40 ∧ Below w.heap.size w w') := fun w h => bytesOf_ex 40 (by omega) (by omega) a1 N1 C1 z1 hz1 (IsRow.lenLe h1) w h
    have B2 : Hid (∀ w : World, Code8 w a2 N2 z2 → Calls Tryd.prog 7 #[.slice a2 N2 C2, .int .i64 40] w fun e w' => SomeOwn w.heap.size w' e 40 ∧ Below w.heap.size w w') := fun w h => bytesOf_ex 40 (by omega) (by omega) a2 N2 C2 z2 hz2 (IsRow.lenLe h2) w h
    have Z1 : Hid (Code8 w a1 N1 z1) := hc1
    have Z2 : Hid (Code8 w a2 N2 z2) := hc2
    have ROW : Hid (IsRow .u8 w a2 N2 C2 zs2) := h2
    have HT : Hid (Tabs w) := ht
    clear h1 h2 hc1 hc2 hz1 hz2 ht
    go_enter Tryd.func3, Tryd.ntmps3
    go_wp2_with fail
    refine (B1.out _ Z1.out).mono ?_
    rintro e w1 ⟨⟨sn, sf, sg, sc, hsn, hsf, rfl, hown1⟩, hb1⟩
    obtain ⟨g', c', ⟨hga, hca⟩, e', ho1⟩ := own8_of_own hown1 (by intro e; cases e)
    cases e'
    have HB1 : Hid (Below w.heap.size w w1) := hb1
    have S1 : Hid (Own8 w1 sg sn sf) := ho1
    clear Z1 B1 hown1 ho1 hb1
    go_wp2_with fail
    refine (B2.out _ (Z2.out.below HB1.out)).mono ?_
    rintro e w2 ⟨⟨tn, tf, tg, tc, htn, htf, rfl, hown2⟩, hb2⟩
    obtain ⟨g', c', ⟨hgb, hcb⟩, e', ho2⟩ := own8_of_own hown2 (by intro e; cases e)
    cases e'
    have HB2 : Hid (Below w.heap.size w w2) := HB1.out.trans (hb2.mono HB1.out.size)
    have S2 : Hid (Own8 w2 sg sn sf) := S1.out.below hb2
    have T2 : Hid (Own8 w2 tg tn tf) := ho2
    clear hb2 Z2 B2 hown2 ho2 HB1 S1
    go_wp2_with fail
    refine (at_any a2 N2 C2 zs2 _ (isRow_belowH ROW.out HB2.out) 0 100 (by omega) (by omega) (by omega) (by omega)).mono ?_
    rintro e w3 ⟨⟨n, hn, rfl⟩, q3, rfl⟩
    have HB3 : Hid (Below w.heap.size w (w2.drewN q3)) := below_drewN8 HB2.out q3
    have S3 : Hid (Own8 (w2.drewN q3) sg sn sf) := S2.out.drewN q3
    have T3 : Hid (Own8 (w2.drewN q3) tg tn tf) := T2.out.drewN q3
    clear HB2 S2 T2
    generalize w2.drewN q3 = w3 at *
    go_wp2_with fail
    refine (at_any a2 N2 C2 zs2 _ (isRow_belowH ROW.out HB3.out) 1 60 (by omega) (by omega) (by omega) (by omega)).mono ?_
    rintro e w4 ⟨⟨p, hp, rfl⟩, q4, rfl⟩
    have HBx : Hid (Below w.heap.size w (w3.drewN q4)) := below_drewN8 HB3.out q4
    have Sx : Hid (Own8 (w3.drewN q4) sg sn sf) := S3.out.drewN q4
    have Tx : Hid (Own8 (w3.drewN q4) tg tn tf) := T3.out.drewN q4
    clear HB3 S3 T3 ROW
    generalize w3.drewN q4 = w4 at *
    obtain ⟨KEY, hKEY⟩ : ∃ KEY, KEY = macS sn sf tn tf := ⟨_, rfl⟩
    have hKs : KEY.size ≤ 65536 := by rw [hKEY, macS_size]; omega
    have EXT : Hid (∀ w : World, Own8 w sg sn sf → Own8 w tg tn tf → Tabs w → Calls Tryd.prog 11 #[.slice (some ⟨sg, 0, none⟩) sn sc, .slice (some ⟨tg, 0, none⟩) tn tc] w fun e w' => e = .returned (.tuple #[.string KEY, .int .i64 0]) ∧ Below w.heap.size w w') := fun w k0 k1 kt => by rw [hKEY]; exact implExtract_of _ _ _ rfl _ _ w (implHmac_yes sg 0 sn sc tg 0 tn tc sf tf hsf htf (by omega) (by omega) w k0.code k1.code kt)
    have HMC : Hid (∀ w : World, Own8 w sg sn sf → Own8 w tg tn tf → Tabs w → Calls Tryd.prog 17 #[.slice (some ⟨sg, 0, none⟩) sn sc, .slice (some ⟨tg, 0, none⟩) tn tc] w fun e w' => e = .returned (.tuple #[.string KEY, .int .i64 0]) ∧ Below w.heap.size w w') := fun w k0 k1 kt => by rw [hKEY]; exact implHmac_yes sg 0 sn sc tg 0 tn tc sf tf hsf htf (by omega) (by omega) w k0.code k1.code kt
    have EXP : Hid (∀ (b m : Nat) (w : World), m ≤ 8160 → Code8 w (some ⟨b, 0, none⟩) 4 infoF → Tabs w → Calls Tryd.prog 12 #[.string KEY, .slice (some ⟨b, 0, none⟩) 4 4, .int .i64 (m : Int)] w fun e w' => e = .returned (.tuple #[.string (drawS KEY 4 infoF m), .int .i64 0]) ∧ Below w.heap.size w w') := fun b m w hm k kt => implExpand_yes KEY b 0 4 4 m infoF infoF_lt hKs (by omega) hm w k kt
    have HKD : Hid (∀ (b m : Nat) (w : World), m ≤ 8160 → Own8 w sg sn sf → Own8 w tg tn tf → Code8 w (some ⟨b, 0, none⟩) 4 infoF → Tabs w → Calls Tryd.prog 9 #[.slice (some ⟨sg, 0, none⟩) sn sc, .slice (some ⟨tg, 0, none⟩) tn tc, .slice (some ⟨b, 0, none⟩) 4 4, .int .i64 (m : Int)] w fun e w' => e = .returned (.tuple #[.string (drawS KEY 4 infoF m), .int .i64 0]) ∧ Below w.heap.size w w') := fun b m w hm k0 k1 k kt => implHkdf_go _ _ _ m 0 KEY _ w (EXT.out w k0 k1 kt) (fun w' hb => EXP.out b m w' hm (k.below hb) (kt.below hb))
    have SHK : Hid (∀ (b m : Nat) (w : World), m ≤ 8160 → Own8 w sg sn sf → Own8 w tg tn tf → Code8 w (some ⟨b, 0, none⟩) 4 infoF → Calls Tryd.prog 10 #[.slice (some ⟨sg, 0, none⟩) sn sc, .slice (some ⟨tg, 0, none⟩) tn tc, .slice (some ⟨b, 0, none⟩) 4 4, .int .i64 (m : Int)] w fun e w' => e = .returned (.tuple #[.string (drawS KEY 4 infoF m), .int .i64 0]) ∧ Below w.heap.size w w') := fun b m w hm k0 k1 k => by rw [hKEY]; exact specHkdf_yes sg 0 sn sc tg 0 tn tc b 0 4 4 m sf tf infoF hsf htf infoF_lt (by omega) (by omega) (by omega) hm w k0.code k1.code k
    obtain ⟨HA, hHA⟩ : ∃ HA, HA = hashS sn sf := ⟨_, rfl⟩
    have hHAs : HA.size ≤ 65536 := by rw [hHA, hashS_size]; omega
    have IH : Hid (∀ w : World, Own8 w sg sn sf → Tabs w → Calls Tryd.prog 14 #[.slice (some ⟨sg, 0, none⟩) sn sc] w fun e w' => e = .returned (.string HA) ∧ Below w.heap.size w w') := fun w k0 kt => by rw [hHA]; exact implHash_yes sg 0 sn sc sf hsf (by omega) w k0.code kt
    have SH : Hid (∀ w : World, Own8 w sg sn sf → Calls Tryd.prog 16 #[.slice (some ⟨sg, 0, none⟩) sn sc] w fun e w' => e = .returned (.string HA) ∧ Below w.heap.size w w') := fun w k0 => by rw [hHA]; exact specHash_yes sg 0 sn sc sf hsf (by omega) w k0.code
    have IX : Hid (∀ w : World, Calls Tryd.prog 13 #[.string HA] w fun e w' => e = .returned (.tuple #[.string (kstr (hexF HA) 0 (2 * HA.size)), .int .i64 0]) ∧ Below w.heap.size w w') := implHex_yes HA hHAs
    have SX : Hid (∀ w : World, Calls Tryd.prog 15 #[.string HA] w fun e w' => e = .returned (.tuple #[.string (kstr (hexF HA) 0 (2 * HA.size)), .int .i64 0]) ∧ Below w.heap.size w w') := specHex_yesH HA hHAs
    generalize kstr (hexF HA) 0 (2 * HA.size) = XT at *
    obtain ⟨M, hM⟩ : ∃ M, M = n + p := ⟨_, rfl⟩
    have eM : (n : Int) + (p : Int) = (M : Int) := by omega
    have hn' : n ≤ 8160 := by omega
    have hM' : M ≤ 8160 := by omega
    have exN : (drawS KEY 4 infoF M).extract 0 n = drawS KEY 4 infoF n := drawS_part KEY 4 infoF n M (by omega)
    have szM : (drawS KEY 4 infoF M).size = M := drawS_size _ _ _ _
    have xnM : (n : Int) ≤ (M : Int) := by omega
    have xn0 : (0 : Int) ≤ (n : Int) := by omega
    have H1 : Hid (∀ (b : Nat) (w : World), Own8 w sg sn sf → Own8 w tg tn tf → Code8 w (some ⟨b, 0, none⟩) 4 infoF → Tabs w → Calls Tryd.prog 9 #[.slice (some ⟨sg, 0, none⟩) sn sc, .slice (some ⟨tg, 0, none⟩) tn tc, .slice (some ⟨b, 0, none⟩) 4 4, .int .i64 (n : Int)] w fun e w' => e = .returned (.tuple #[.string (drawS KEY 4 infoF n), .int .i64 0]) ∧ Below w.heap.size w w') := fun b w => HKD.out b n w hn'
    have H2 : Hid (∀ (b : Nat) (w : World), Own8 w sg sn sf → Own8 w tg tn tf → Code8 w (some ⟨b, 0, none⟩) 4 infoF → Tabs w → Calls Tryd.prog 9 #[.slice (some ⟨sg, 0, none⟩) sn sc, .slice (some ⟨tg, 0, none⟩) tn tc, .slice (some ⟨b, 0, none⟩) 4 4, .int .i64 (M : Int)] w fun e w' => e = .returned (.tuple #[.string (drawS KEY 4 infoF M), .int .i64 0]) ∧ Below w.heap.size w w') := fun b w => HKD.out b M w hM'
    have H3 : Hid (∀ (b : Nat) (w : World), Own8 w sg sn sf → Own8 w tg tn tf → Code8 w (some ⟨b, 0, none⟩) 4 infoF → Calls Tryd.prog 10 #[.slice (some ⟨sg, 0, none⟩) sn sc, .slice (some ⟨tg, 0, none⟩) tn tc, .slice (some ⟨b, 0, none⟩) 4 4, .int .i64 (n : Int)] w fun e w' => e = .returned (.tuple #[.string (drawS KEY 4 infoF n), .int .i64 0]) ∧ Below w.heap.size w w') := fun b w => SHK.out b n w hn'
    have H4 : Hid (∀ (b : Nat) (w : World), Code8 w (some ⟨b, 0, none⟩) 4 infoF → Tabs w → Calls Tryd.prog 12 #[.string KEY, .slice (some ⟨b, 0, none⟩) 4 4, .int .i64 (n : Int)] w fun e w' => e = .returned (.tuple #[.string (drawS KEY 4 infoF n), .int .i64 0]) ∧ Below w.heap.size w w') := fun b w => EXP.out b n w hn'
    generalize drawS KEY 4 infoF M = DM at *
    generalize drawS KEY 4 infoF n = DN at *
    clear hM hHA hKEY HKD SHK EXP hsf htf
    have cvs : (convert 22 22 (.slice (some ⟨w4.heap.size, 0, none⟩) 4 4)).run Tryd.prog (w4.alloc (.cells #[.int .u8 105, .int .u8 110, .int .u8 102, .int .u8 111] 5)) = .ok (.slice (some ⟨w4.heap.size, 0, none⟩) 4 4) (w4.alloc (.cells #[.int .u8 105, .int .u8 110, .int .u8 102, .int .u8 111] 5 (4, 5))) := conv_row w4 #[.int .u8 105, .int .u8 110, .int .u8 102, .int .u8 111] 4 4
    have INF := info_code w4
    have BA : Below w4.heap.size w4 (w4.alloc (.cells #[.int .u8 105, .int .u8 110, .int .u8 102, .int .u8 111] 5 (4, 5))) := (Below.refl _ _).alloc (Nat.le_refl _) _
    have HINF : Hid (Code8 (w4.alloc (.cells #[.int .u8 105, .int .u8 110, .int .u8 102, .int .u8 111] 5 (4, 5))) (some ⟨w4.heap.size, 0, none⟩) 4 infoF) := INF
    replace HBx : Hid (Below w.heap.size w (w4.alloc (.cells #[.int .u8 105, .int .u8 110, .int .u8 102, .int .u8 111] 5 (4, 5)))) := HBx.out.trans (BA.mono HBx.out.size)
    replace Sx : Hid (Own8 (w4.alloc (.cells #[.int .u8 105, .int .u8 110, .int .u8 102, .int .u8 111] 5 (4, 5))) sg sn sf) := Sx.out.below BA
    replace Tx : Hid (Own8 (w4.alloc (.cells #[.int .u8 105, .int .u8 110, .int .u8 102, .int .u8 111] 5 (4, 5))) tg tn tf) := Tx.out.below BA
    clear INF BA
    go_wp2_with fail
    refine (H1.out _ _ Sx.out Tx.out HINF.out (HT.out.below HBx.out)).mono ?_
    rintro e w5 ⟨rfl, hb⟩
    replace HBx : Hid (Below w.heap.size w w5) := HBx.out.trans (hb.mono HBx.out.size)
    replace Sx : Hid (Own8 w5 sg sn sf) := Sx.out.below hb
    replace Tx : Hid (Own8 w5 tg tn tf) := Tx.out.below hb
    clear hb HINF cvs
    have cvs : (convert 22 22 (.slice (some ⟨w5.heap.size, 0, none⟩) 4 4)).run Tryd.prog (w5.alloc (.cells #[.int .u8 105, .int .u8 110, .int .u8 102, .int .u8 111] 5)) = .ok (.slice (some ⟨w5.heap.size, 0, none⟩) 4 4) (w5.alloc (.cells #[.int .u8 105, .int .u8 110, .int .u8 102, .int .u8 111] 5 (4, 5))) := conv_row w5 #[.int .u8 105, .int .u8 110, .int .u8 102, .int .u8 111] 4 4
    have INF := info_code w5
    have BA : Below w5.heap.size w5 (w5.alloc (.cells #[.int .u8 105, .int .u8 110, .int .u8 102, .int .u8 111] 5 (4, 5))) := (Below.refl _ _).alloc (Nat.le_refl _) _
    have HINF : Hid (Code8 (w5.alloc (.cells #[.int .u8 105, .int .u8 110, .int .u8 102, .int .u8 111] 5 (4, 5))) (some ⟨w5.heap.size, 0, none⟩) 4 infoF) := INF
    replace HBx : Hid (Below w.heap.size w (w5.alloc (.cells #[.int .u8 105, .int .u8 110, .int .u8 102, .int .u8 111] 5 (4, 5)))) := HBx.out.trans (BA.mono HBx.out.size)
    replace Sx : Hid (Own8 (w5.alloc (.cells #[.int .u8 105, .int .u8 110, .int .u8 102, .int .u8 111] 5 (4, 5))) sg sn sf) := Sx.out.below BA
    replace Tx : Hid (Own8 (w5.alloc (.cells #[.int .u8 105, .int .u8 110, .int .u8 102, .int .u8 111] 5 (4, 5))) tg tn tf) := Tx.out.below BA
    clear INF BA
    go_wp2_with fail
    refine (H2.out _ _ Sx.out Tx.out HINF.out (HT.out.below HBx.out)).mono ?_
    rintro e w6 ⟨rfl, hb⟩
    replace HBx : Hid (Below w.heap.size w w6) := HBx.out.trans (hb.mono HBx.out.size)
    replace Sx : Hid (Own8 w6 sg sn sf) := Sx.out.below hb
    replace Tx : Hid (Own8 w6 tg tn tf) := Tx.out.below hb
    clear hb HINF cvs
    have cvs : (convert 22 22 (.slice (some ⟨w6.heap.size, 0, none⟩) 4 4)).run Tryd.prog (w6.alloc (.cells #[.int .u8 105, .int .u8 110, .int .u8 102, .int .u8 111] 5)) = .ok (.slice (some ⟨w6.heap.size, 0, none⟩) 4 4) (w6.alloc (.cells #[.int .u8 105, .int .u8 110, .int .u8 102, .int .u8 111] 5 (4, 5))) := conv_row w6 #[.int .u8 105, .int .u8 110, .int .u8 102, .int .u8 111] 4 4
    have INF := info_code w6
    have BA : Below w6.heap.size w6 (w6.alloc (.cells #[.int .u8 105, .int .u8 110, .int .u8 102, .int .u8 111] 5 (4, 5))) := (Below.refl _ _).alloc (Nat.le_refl _) _
    have HINF : Hid (Code8 (w6.alloc (.cells #[.int .u8 105, .int .u8 110, .int .u8 102, .int .u8 111] 5 (4, 5))) (some ⟨w6.heap.size, 0, none⟩) 4 infoF) := INF
    replace HBx : Hid (Below w.heap.size w (w6.alloc (.cells #[.int .u8 105, .int .u8 110, .int .u8 102, .int .u8 111] 5 (4, 5)))) := HBx.out.trans (BA.mono HBx.out.size)
    replace Sx : Hid (Own8 (w6.alloc (.cells #[.int .u8 105, .int .u8 110, .int .u8 102, .int .u8 111] 5 (4, 5))) sg sn sf) := Sx.out.below BA
    replace Tx : Hid (Own8 (w6.alloc (.cells #[.int .u8 105, .int .u8 110, .int .u8 102, .int .u8 111] 5 (4, 5))) tg tn tf) := Tx.out.below BA
    clear INF BA
    go_wp2_with fail
    refine (H3.out _ _ Sx.out Tx.out HINF.out).mono ?_
    rintro e w7 ⟨rfl, hb⟩
    replace HBx : Hid (Below w.heap.size w w7) := HBx.out.trans (hb.mono HBx.out.size)
    replace Sx : Hid (Own8 w7 sg sn sf) := Sx.out.below hb
    replace Tx : Hid (Own8 w7 tg tn tf) := Tx.out.below hb
    clear hb HINF cvs
    go_wp2_with fail
    refine (EXT.out _ Sx.out Tx.out (HT.out.below HBx.out)).mono ?_
    rintro e w8 ⟨rfl, hb⟩
    replace HBx : Hid (Below w.heap.size w w8) := HBx.out.trans (hb.mono HBx.out.size)
    replace Sx : Hid (Own8 w8 sg sn sf) := Sx.out.below hb
    replace Tx : Hid (Own8 w8 tg tn tf) := Tx.out.below hb
    clear hb
    have cvs : (convert 22 22 (.slice (some ⟨w8.heap.size, 0, none⟩) 4 4)).run Tryd.prog (w8.alloc (.cells #[.int .u8 105, .int .u8 110, .int .u8 102, .int .u8 111] 5)) = .ok (.slice (some ⟨w8.heap.size, 0, none⟩) 4 4) (w8.alloc (.cells #[.int .u8 105, .int .u8 110, .int .u8 102, .int .u8 111] 5 (4, 5))) := conv_row w8 #[.int .u8 105, .int .u8 110, .int .u8 102, .int .u8 111] 4 4
    have INF := info_code w8
    have BA : Below w8.heap.size w8 (w8.alloc (.cells #[.int .u8 105, .int .u8 110, .int .u8 102, .int .u8 111] 5 (4, 5))) := (Below.refl _ _).alloc (Nat.le_refl _) _
    have HINF : Hid (Code8 (w8.alloc (.cells #[.int .u8 105, .int .u8 110, .int .u8 102, .int .u8 111] 5 (4, 5))) (some ⟨w8.heap.size, 0, none⟩) 4 infoF) := INF
    replace HBx : Hid (Below w.heap.size w (w8.alloc (.cells #[.int .u8 105, .int .u8 110, .int .u8 102, .int .u8 111] 5 (4, 5)))) := HBx.out.trans (BA.mono HBx.out.size)
    replace Sx : Hid (Own8 (w8.alloc (.cells #[.int .u8 105, .int .u8 110, .int .u8 102, .int .u8 111] 5 (4, 5))) sg sn sf) := Sx.out.below BA
    replace Tx : Hid (Own8 (w8.alloc (.cells #[.int .u8 105, .int .u8 110, .int .u8 102, .int .u8 111] 5 (4, 5))) tg tn tf) := Tx.out.below BA
    clear INF BA
    go_wp2_with fail
    refine (H4.out _ _ HINF.out (HT.out.below HBx.out)).mono ?_
    rintro e w9 ⟨rfl, hb⟩
    replace HBx : Hid (Below w.heap.size w w9) := HBx.out.trans (hb.mono HBx.out.size)
    replace Sx : Hid (Own8 w9 sg sn sf) := Sx.out.below hb
    replace Tx : Hid (Own8 w9 tg tn tf) := Tx.out.below hb
    clear hb HINF cvs
    go_wp2_with fail
    refine (IH.out _ Sx.out (HT.out.below HBx.out)).mono ?_
    rintro e w10 ⟨rfl, hb⟩
    replace HBx : Hid (Below w.heap.size w w10) := HBx.out.trans (hb.mono HBx.out.size)
    replace Sx : Hid (Own8 w10 sg sn sf) := Sx.out.below hb
    replace Tx : Hid (Own8 w10 tg tn tf) := Tx.out.below hb
    clear hb
    go_wp2_with fail
    refine (IX.out _).mono ?_
    rintro e w11 ⟨rfl, hb⟩
    replace HBx : Hid (Below w.heap.size w w11) := HBx.out.trans (hb.mono HBx.out.size)
    replace Sx : Hid (Own8 w11 sg sn sf) := Sx.out.below hb
    replace Tx : Hid (Own8 w11 tg tn tf) := Tx.out.below hb
    clear hb
    go_wp2_with fail
    refine (SH.out _ Sx.out).mono ?_
    rintro e w12 ⟨rfl, hb⟩
    replace HBx : Hid (Below w.heap.size w w12) := HBx.out.trans (hb.mono HBx.out.size)
    replace Sx : Hid (Own8 w12 sg sn sf) := Sx.out.below hb
    replace Tx : Hid (Own8 w12 tg tn tf) := Tx.out.below hb
    clear hb
    go_wp2_with fail
    refine (SX.out _).mono ?_
    rintro e w13 ⟨rfl, hb⟩
    replace HBx : Hid (Below w.heap.size w w13) := HBx.out.trans (hb.mono HBx.out.size)
    replace Sx : Hid (Own8 w13 sg sn sf) := Sx.out.below hb
    replace Tx : Hid (Own8 w13 tg tn tf) := Tx.out.below hb
    clear hb
    go_wp2_with fail
    refine (HMC.out _ Sx.out Tx.out (HT.out.below HBx.out)).mono ?_
    rintro e w14 ⟨rfl, hb⟩
    replace HBx : Hid (Below w.heap.size w w14) := HBx.out.trans (hb.mono HBx.out.size)
    replace Sx : Hid (Own8 w14 sg sn sf) := Sx.out.below hb
    replace Tx : Hid (Own8 w14 tg tn tf) := Tx.out.below hb
    clear hb
    clear H1 H2 H3 H4 EXT IH IX SH SX HMC Sx Tx HT
    go_wp2
    go_ret
    exact ⟨rfl, HBx.out⟩
  · by_cases h3 : N1 ≤ 1048576
    · have e1 : ¬ (1048576 : Int) < (N1 : Int) := by omega
      have e2 : (1048576 : Int) < (N2 : Int) := by omega
      clear h0
      go_enter Tryd.func3, Tryd.ntmps3
      go_wp2
      go_ret
      exact ⟨rfl, Below.refl _ _⟩
    · have e1 : (1048576 : Int) < (N1 : Int) := by omega
      clear h0
      go_enter Tryd.func3, Tryd.ntmps3
      go_wp2
      go_ret
      exact ⟨rfl, Below.refl _ _⟩
end Go.Proofs.YtbajdphiaibmgaaDoor
