/-
  In a region that draws its order the condition on the world may be made stronger on the way.
-/
import Derived.Test.YtbecnaabmlkjjabDoorJ01
import Derived.Deep.RegionHeld3
import Derived.Deep.RegionHeldLaw
import Derived.Test.YtbecnaabmlkjjabDoorJ08
import Derived.Test.YtbecnaabmlkjjabDoorJ11
import Derived.Defers
import Derived.Test.YtbecnaabmlkjjabDoorRows
import Derived.Test.YtbecnaabmlkjjabDoorJ05
import Derived.WalkKit
import Derived.ProofKit
import Derived.OpenShut
import Derived.ShutString
import Derived.Laws.BitsAllLaws
namespace Go.Proofs.YtbecnaabmlkjjabDoor
theorem wpAnyH_strong {P : Program} {md : Region.Mode} {ops : Array Oper} {Q : Exit → Act → World → Prop} {S S' : World → Prop} (hS : ∀ w, S' w → S w) :
    ∀ (fuel : Nat) (listed : Array Bool) (a : Act) (w : World), wpAnyH P md ops Q S' fuel listed a w → wpAnyH P md ops Q S fuel listed a w
  | 0, _, _, _, h => h
  | fuel + 1, _, _, _, h => ⟨h.1, fun i hi => wpOp_mono (fun a' w' h' => ⟨hS _ h'.1, wpAnyH_strong hS fuel _ a' w' h'.2⟩) (h.2 i hi)⟩
end Go.Proofs.YtbecnaabmlkjjabDoor

/-
  The two keys of a key, in numbers and as texts.
-/
namespace Go.Proofs.YtbecnaabmlkjjabDoor
open Go.ChangeShapes Go.WideShapes Go.ChangeAt Go.RowKit
def sealF (i : Nat) : Nat := if i = 0 then 115 else if i = 1 then 101 else if i = 2 then 97 else 108
theorem sealF_lt (i : Nat) : sealF i < 256 := by unfold sealF; split; omega; split; omega; split <;> omega
def keysF (i : Nat) : Nat := if i = 0 then 107 else if i = 1 then 101 else if i = 2 then 121 else 115
theorem keysF_lt (i : Nat) : keysF i < 256 := by unfold keysF; split; omega; split; omega; split <;> omega
theorem conv_rowS (w : World) (C : Array Value) (n c : Nat) : (convert 25 25 (.slice (some ⟨w.heap.size, 0, none⟩) n c)).run Tryd.prog (w.alloc (.cells C 5)) = .ok (.slice (some ⟨w.heap.size, 0, none⟩) n c) (w.alloc (.cells C 5 (C.size, C.size + 1))) := by
  have hsh : (w.alloc (.cells C 5)).shape? w.heap.size = some (5, C.size) := by
    have : (w.alloc (.cells C 5)).heap[w.heap.size]? = some (.cells C 5) := by
      show (w.heap.push (.cells C 5))[w.heap.size]? = _
      simp
    unfold World.shape?
    rw [this]
  have hfr : (w.alloc (.cells C 5)).freeze ⟨w.heap.size, C.size, none⟩ 1 = w.alloc (.cells C 5 (C.size, C.size + 1)) := by
    have hm : ∀ (a : Array Obj) (x : Obj) (f : Obj → Obj), (a.push x).modify a.size f = a.push (f x) := by
      intro a x f
      apply Array.ext
      · simp
      · intro i h1 h2
        simp only [Array.getElem_modify, Array.getElem_push]
        by_cases h : a.size = i
        · subst h
          simp
        · have hi : i < a.size := by simp at h1; omega
          simp [h, hi]
    unfold World.freeze
    rw [if_neg (by decide)]
    show ({ w.alloc (.cells C 5) with heap := (w.heap.push (.cells C 5)).modify w.heap.size _ } : World) = _
    rw [hm]
    rfl
  simp [convert, run_underlying Tryd.underlying25, run_underlying Tryd.underlying5, markStringish, hsh]
  exact hfr
theorem seal_code (w : World) : Code8 (w.alloc (.cells #[.int .u8 115, .int .u8 101, .int .u8 97, .int .u8 108] 5 (4, 5))) (some ⟨w.heap.size, 0, none⟩) 4 sealF := code8_of (fun i hi => by
  rw [Nat.zero_add, World.cell?_alloc_mark]
  rcases (show i = 0 ∨ i = 1 ∨ i = 2 ∨ i = 3 by omega) with rfl | rfl | rfl | rfl <;> (simp [sealF]))
theorem keys_code (w : World) : Code8 (w.alloc (.cells #[.int .u8 107, .int .u8 101, .int .u8 121, .int .u8 115] 5 (4, 5))) (some ⟨w.heap.size, 0, none⟩) 4 keysF := code8_of (fun i hi => by
  rw [Nat.zero_add, World.cell?_alloc_mark]
  rcases (show i = 0 ∨ i = 1 ∨ i = 2 ∨ i = 3 by omega) with rfl | rfl | rfl | rfl <;> (simp [keysF]))
/-- The secret of a key; the bytes that are drawn out of it (the first 32 encrypt, the next 32 tag); the two keys as texts. -/
def secS (k : ByteArray) : ByteArray := macS 4 sealF 32 (strB k)
def pairF (k : ByteArray) : Nat → Nat := Sha.drawnF (Sha.keyF 32 (strB (secS k))) 4 keysF
theorem pairF_lt (k : ByteArray) (i : Nat) : pairF k i < 256 := Sha.drawnF_lt _ _ _ _
theorem secS_size (k : ByteArray) : (secS k).size = 32 := macS_size _ _ _ _
def encS (k : ByteArray) : ByteArray := kstr (pairF k) 0 32
def tagS (k : ByteArray) : ByteArray := kstr (pairF k) 32 32
theorem encS_size (k : ByteArray) : (encS k).size = 32 := kstr_size _ _ _
theorem tagS_size (k : ByteArray) : (tagS k).size = 32 := kstr_size _ _ _
end Go.Proofs.YtbecnaabmlkjjabDoor

/-
  The two keys of a key: the contract of impl.keysOf.
-/
namespace Go.Proofs.YtbecnaabmlkjjabDoor
open Go.ChangeShapes Go.WideShapes Go.ChangeAt Go.RowKit
theorem Row8.drewK {w : World} {b n : Nat} {t : TypeId} {f : Nat → Nat} (h : Row8 w b t n f) : Row8 w.drew b t n f := h
theorem Tryd.infoKp : (Tryd.prog.info? 64).map (fun i => (i.zero, i.size)) = some (some (.agg (Array.replicate 64 (.int .u8 0))), 64) := by kernel_rfl
theorem Tryd.zeroKp : ∀ w, (zeroValue 64).run Tryd.prog w = .ok (.agg (Array.replicate 64 (.int .u8 0))) w := (zero_of_info Tryd.infoKp).1
theorem Tryd.sizeKp : (Tryd.prog.info? 64).map (·.size) = some 64 := by kernel_rfl
set_option maxRecDepth 100000 in
set_option maxHeartbeats 2000000 in
theorem keysOf_any (k : ByteArray) (hk : k.size = 32) (w : World) (ht : Tabs w) :
    Calls Tryd.prog 39 #[.string k] w fun e w' => e = .returned (.agg (bA 64 (pairF k))) ∧ Below w.heap.size w w' := by
  have z1 := Tryd.zeroKp
  have SZ : Hid ((Tryd.prog.info? 5).map (·.size) = some 1) := size8
  have NM1 : Hid (∀ (b c : Nat) (w : World), Code8 w (some ⟨b, 0, none⟩) 4 sealF → Tabs w → Calls Tryd.prog 49 #[.slice (some ⟨b, 0, none⟩) 4 c] w fun e w' => e = .returned (.agg (bA 64 (Sha.keyF 4 sealF))) ∧ Below w.heap.size w w') := fun b c w h ht => newMacKey_any b 0 4 c sealF sealF_lt (by omega) w h ht
  have NM2 : Hid (∀ (b c : Nat) (w : World), Code8 w (some ⟨b, 0, none⟩) 32 (strB (secS k)) → Tabs w → Calls Tryd.prog 49 #[.slice (some ⟨b, 0, none⟩) 32 c] w fun e w' => e = .returned (.agg (bA 64 (Sha.keyF 32 (strB (secS k))))) ∧ Below w.heap.size w w') := fun b c w h ht => newMacKey_any b 0 32 c _ (strB_lt _) (by omega) w h ht
  have MA : Hid (∀ (b c : Nat) (w : World), Code8 w (some ⟨b, 0, none⟩) 32 (strB k) → Tabs w → Calls Tryd.prog 50 #[.agg (bA 64 (Sha.keyF 4 sealF)), .slice (some ⟨b, 0, none⟩) 32 c] w fun e w' => e = .returned (.string (secS k)) ∧ Below w.heap.size w w') := fun b c w h ht => mac_any (Sha.keyF 4 sealF) (Sha.keyF_lt sealF_lt) b 0 32 c (strB k) (strB_lt k) (by omega) w h ht
  have DR : Hid (∀ (b c : Nat) (w : World), Code8 w (some ⟨b, 0, none⟩) 4 keysF → Tabs w → Calls Tryd.prog 51 #[.agg (bA 64 (Sha.keyF 32 (strB (secS k)))), .slice (some ⟨b, 0, none⟩) 4 c, .int .i64 64] w fun e w' => e = .returned (.string (kstr (pairF k) 0 64)) ∧ Below w.heap.size w w') := fun b c w h ht => drawn_any (Sha.keyF 32 (strB (secS k))) (Sha.keyF_lt (strB_lt _)) b 0 4 c 64 keysF keysF_lt (by omega) (by omega) w h ht
  have hss : (secS k).size = 32 := secS_size k
  have lG : ∀ i, pairF k i < 256 := pairF_lt k
  generalize pairF k = G at *
  generalize secS k = SE at *
  generalize bA 64 (Sha.keyF 4 sealF) = K1 at *
  generalize bA 64 (Sha.keyF 32 (strB SE)) = K2 at *
  have HT : Hid (Tabs w) := ht
  have hbs : (kstr G 0 64).size = 64 := kstr_size _ _ _
  have hx1 : (kstr G 0 64).extract 0 32 = kstr G 0 32 := by
    have := kstr_extract (kstr G 0 64) 0 32 (by rw [hbs]; omega)
    rw [Nat.zero_add] at this
    rw [this]
    exact kstr_congr (fun i hi => by rw [Nat.zero_add, strB_kstr _ 0 64 i (by rw [Nat.zero_add]; exact lG _) (by omega), Nat.zero_add])
  have hx2 : (kstr G 0 64).extract 32 64 = kstr G 32 32 := by
    have := kstr_extract (kstr G 0 64) 32 32 (by rw [hbs]; omega)
    rw [this]
    exact kstr_congr (fun i hi => by rw [strB_kstr _ 0 64 (32 + i) (by rw [Nat.zero_add]; exact lG _) (by omega), Nat.zero_add])
  clear ht
  go_enter Tryd.func39, Tryd.ntmps39
  go_upto_region 1 with fail
  have A0 : Below w.heap.size w (w.alloc (.cells (Array.replicate 64 (.int .u8 0)) 64)) := (Below.refl _ _).alloc (Nat.le_refl _) _
  have R0 : Hid (Row8 (w.alloc (.cells (Array.replicate 64 (.int .u8 0)) 64)) w.heap.size 64 64 (fun _ => 0)) := Row8.zerosAt rfl _ _
  have B0 : Hid (Below w.heap.size w (w.alloc (.cells (Array.replicate 64 (.int .u8 0)) 64))) := A0
  generalize w.alloc (.cells (Array.replicate 64 (.int .u8 0)) 64) = w0 at *
  have hcv1 := conv_rowS w0 #[.int .u8 115, .int .u8 101, .int .u8 97, .int .u8 108] 4 4
  have AA : Below w0.heap.size w0 (w0.alloc (.cells #[.int .u8 115, .int .u8 101, .int .u8 97, .int .u8 108] 5 (4, 5))) := (Below.refl _ _).alloc (Nat.le_refl _) _
  have HAA : Hid _ := AA
  have HT1 : Hid (Tabs (w0.alloc (.cells #[.int .u8 115, .int .u8 101, .int .u8 97, .int .u8 108] 5 (4, 5)))) := (HT.out.below A0).below AA
  clear AA A0
  go_wp2_with fail
  refine (NM1.out w0.heap.size 4 _ (seal_code w0) HT1.out).mono ?_
  rintro e w1 ⟨rfl, hb1⟩
  have B1 : Hid (Below w.heap.size w w1) := B0.out.trans ((HAA.out.trans (hb1.mono HAA.out.size)).mono B0.out.size)
  have R1 : Hid (Row8 w1 w.heap.size 64 64 (fun _ => 0)) := R0.out.below (HAA.out.trans (hb1.mono HAA.out.size))
  clear hb1 HAA HT1 R0 B0 hcv1 NM1
  generalize w0.heap.size = b0 at *
  obtain ⟨w2, c2, hcv2, hk2, hb2, _⟩ := bytesOfM k w1
  rw [hk] at hcv2 hk2
  have HK2 : Hid (Code8 w2 (some ⟨w1.heap.size, 0, none⟩) 32 (strB k)) := hk2
  have B2 : Hid (Below w.heap.size w w2) := B1.out.trans (hb2.mono B1.out.size)
  have R2 : Hid (Row8 w2 w.heap.size 64 64 (fun _ => 0)) := R1.out.below hb2
  clear hk2 hb2 B1 R1
  generalize w1.heap.size = b1 at *
  go_wp2_with fail
  refine (MA.out b1 c2 _ HK2.out (HT.out.below B2.out)).mono ?_
  rintro e w3 ⟨rfl, hb3⟩
  have B3 : Hid (Below w.heap.size w w3) := B2.out.trans (hb3.mono B2.out.size)
  have R3 : Hid (Row8 w3 w.heap.size 64 64 (fun _ => 0)) := R2.out.below hb3
  clear hb3 B2 R2 HK2 hcv2 MA
  obtain ⟨w4, c4, hcv4, hk4, hb4, _⟩ := bytesOfM SE w3
  rw [hss] at hcv4 hk4
  have HK4 : Hid (Code8 w4 (some ⟨w3.heap.size, 0, none⟩) 32 (strB SE)) := hk4
  have B4 : Hid (Below w.heap.size w w4) := B3.out.trans (hb4.mono B3.out.size)
  have R4 : Hid (Row8 w4 w.heap.size 64 64 (fun _ => 0)) := R3.out.below hb4
  clear hk4 hb4 B3 R3
  generalize w3.heap.size = b3 at *
  go_wp2_with fail
  refine (NM2.out b3 c4 _ HK4.out (HT.out.below B4.out)).mono ?_
  rintro e w5 ⟨rfl, hb5⟩
  have B5 : Hid (Below w.heap.size w w5) := B4.out.trans (hb5.mono B4.out.size)
  have R5 : Hid (Row8 w5 w.heap.size 64 64 (fun _ => 0)) := R4.out.below hb5
  clear hb5 B4 R4 HK4 hcv4 NM2
  have hcv5 := conv_rowS w5 #[.int .u8 107, .int .u8 101, .int .u8 121, .int .u8 115] 4 4
  have AA : Below w5.heap.size w5 (w5.alloc (.cells #[.int .u8 107, .int .u8 101, .int .u8 121, .int .u8 115] 5 (4, 5))) := (Below.refl _ _).alloc (Nat.le_refl _) _
  have B6 : Hid (Below w.heap.size w (w5.alloc (.cells #[.int .u8 107, .int .u8 101, .int .u8 121, .int .u8 115] 5 (4, 5)))) := B5.out.trans (AA.mono B5.out.size)
  have R6 : Hid (Row8 (w5.alloc (.cells #[.int .u8 107, .int .u8 101, .int .u8 121, .int .u8 115] 5 (4, 5))) w.heap.size 64 64 (fun _ => 0)) := R5.out.below AA
  clear AA B5 R5
  go_wp2_with fail
  refine (DR.out w5.heap.size 4 _ (keys_code w5) (HT.out.below B6.out)).mono ?_
  rintro e w7 ⟨rfl, hb7⟩
  have B7 : Hid (Below w.heap.size w w7) := B6.out.trans (hb7.mono B6.out.size)
  have R7 : Hid (Row8 w7 w.heap.size 64 64 (fun _ => 0)) := R6.out.below hb7
  clear hb7 B6 R6 hcv5 DR HT
  generalize hBO : kstr G 0 64 = BO at *
  have hS1 : (kstr G 0 32).size = 32 := kstr_size _ _ _
  have hS2 : (kstr G 32 32).size = 32 := kstr_size _ _ _
  have HE1 : Hid (∀ i, i < 32 → strB (kstr G 0 32) i = G i) := fun i hi => by rw [strB_kstr _ 0 32 i (by rw [Nat.zero_add]; exact lG _) hi, Nat.zero_add]
  have HE2 : Hid (∀ i, i < 32 → strB (kstr G 32 32) i = G (32 + i)) := fun i hi => by rw [strB_kstr _ 32 32 i (lG _) hi]
  clear hBO lG
  generalize kstr G 0 32 = S1 at *
  generalize kstr G 32 32 = S2 at *
  generalize w5.heap.size = b5 at *
  have Q8 : Hid (Row8 (w7.alloc (.cells (Array.replicate 64 (.int .u8 0)) 64)) w7.heap.size 64 64 (fun _ => 0)) := Row8.zerosAt rfl _ _
  have P8 : Hid (Row8 (w7.alloc (.cells (Array.replicate 64 (.int .u8 0)) 64)) w.heap.size 64 64 (fun _ => 0)) := R7.out.alloc _
  have B8 : Hid (Below w.heap.size w (w7.alloc (.cells (Array.replicate 64 (.int .u8 0)) 64))) := B7.out.alloc B7.out.size _
  have hq : w.heap.size < w7.heap.size := R7.out.lt
  go_upto_region 4 with fail
  generalize w7.alloc (.cells (Array.replicate 64 (.int .u8 0)) 64) = w8 at *
  generalize w7.heap.size = q at *
  clear B7 R7
  refine wp_region_noPanic ?_
  refine wp_region_held_drew (S := fun _ => True) (by kernel_rfl) trivial (fun _ => ?_)
  refine wpAnyH_take (i := 0) (v := .pointer (some ⟨q, 0, none⟩)) rfl (by kernel_rfl) (by kernel_rfl) (by kernel_rfl) (fun _ _ _ h => h) (Or.inl ⟨by rfl, ?_⟩) trivial ?_
  · intro w' hSw; go_simp
  change wpAnyH _ _ _ _ _ _ _ { tmps := #[_, _, _, _, _, _, _, _, _, _, _, _, _, _, _, _, _, _, _, _, _, _, _, _, _, _, _, _, _], defers := [] } _
  refine wpAnyH_take (i := 1) (v := .slice (some ⟨q, 0, none⟩) 32 32) rfl (by kernel_rfl) (by kernel_rfl) (by kernel_rfl) (fun _ _ _ h => h) (Or.inl ⟨by rfl, ?_⟩) trivial ?_
  · intro w' hSw; go_simp
  change wpAnyH _ _ _ _ _ _ _ { tmps := #[_, _, _, _, _, _, _, _, _, _, _, _, _, _, _, _, _, _, _, _, _, _, _, _, _, _, _, _, _], defers := [] } _
  refine wpAnyH_take (i := 2) (v := .string BO) rfl (by kernel_rfl) (by kernel_rfl) (by kernel_rfl) (fun _ _ _ h => h) (Or.inl ⟨by rfl, ?_⟩) trivial ?_
  · intro w' hSw; go_simp
  change wpAnyH _ _ _ _ _ _ _ { tmps := #[_, _, _, _, _, _, _, _, _, _, _, _, _, _, _, _, _, _, _, _, _, _, _, _, _, _, _, _, _], defers := [] } _
  refine wpAnyH_take (i := 3) (v := .string S1) rfl (by kernel_rfl) (by kernel_rfl) (by kernel_rfl) (fun _ _ _ h => h) (Or.inl ⟨by rfl, ?_⟩) trivial ?_
  · intro w' hSw; go_simp
  change wpAnyH _ _ _ _ _ _ _ { tmps := #[_, _, _, _, _, _, _, _, _, _, _, _, _, _, _, _, _, _, _, _, _, _, _, _, _, _, _, _, _], defers := [] } _
  have Qd8 : Row8 w8.drew q 64 64 (fun _ => 0) := Q8.out.drewK
  have Pd8 : Row8 w8.drew w.heap.size 64 64 (fun _ => 0) := P8.out.drewK
  have CP : ∀ ty, (Builtin.copy_ #[25, 9] ty #[.slice (some ⟨q, 0, none⟩) 32 32, .string S1]).run Tryd.prog w8.drew = .ok (goInt 32) (w8.drew.setCells q 0 (bv 32 (strB S1))) := fun ty => by
    have h := run_copy_leM (P := Tryd.prog) w8.drew 25 9 ty 5 q 0 32 32 S1 (bv 32 (strB S1)) Tryd.underlying25 SZ.out (by omega) (bv_textM S1 32 (by omega)) (fun j hj => by rw [bv_length] at hj; have := (Qd8.there (0 + j) (by omega)).1; rwa [Nat.zero_add] at this) (fun j hj => by rw [bv_length] at hj; have := (Qd8.there (0 + j) (by omega)).2; rwa [Nat.zero_add] at this)
    rw [bv_length] at h
    exact h
  have Q9 : Hid (Row8 (w8.drew.setCells q 0 (bv 32 (strB S1))) q 64 64 (fun i => if i < 32 then G i else 0)) := (rowIs_setCells (bv 32 (strB S1)) 0 w8.drew _ Qd8).congr (fun i hi => by
    rw [bv_length]
    show _ = Value.int .u8 (((if i < 32 then G i else 0) : Nat) : Int)
    by_cases h : i < 32
    · rw [if_pos (by omega), Nat.sub_zero, List.getD_eq_getElem?_getD, bv_at h, if_pos h, HE1.out i h]; rfl
    · rw [if_neg (by omega), if_neg h])
  have P9 : Hid (Row8 (w8.drew.setCells q 0 (bv 32 (strB S1))) w.heap.size 64 64 (fun _ => 0)) := Pd8.storedOther (by omega) _ _
  have B9 : Hid (Below w.heap.size w (w8.drew.setCells q 0 (bv 32 (strB S1)))) := below_setCells (by omega) _ _ _ B8.out.drew
  refine wpAnyH_ready (rs := [4]) (by kernel_rfl) (by simp) ?_
  refine AllReadyH.cons rfl (fun KK hK => ?_) AllReadyH.nil
  go_simp
  refine hK.out _ _ trivial (fun _ => ?_)
  clear hK KK CP Q8 P8 B8 Qd8 Pd8
  generalize w8.drew.setCells q 0 (bv 32 (strB S1)) = w9 at *
  change wpAnyH _ _ _ _ _ _ _ { tmps := #[_, _, _, _, _, _, _, _, _, _, _, _, _, _, _, _, _, _, _, _, _, _, _, _, _, _, _, _, _], defers := [] } _
  refine wpAnyH_done (by kernel_rfl) ?_ _
  refine NoPanic.normal ?_
  go_upto_region 5 with fail
  refine wp_region_noPanic ?_
  refine wp_region_held_drew (S := fun _ => True) (by kernel_rfl) trivial (fun _ => ?_)
  refine wpAnyH_take (i := 0) (v := .pointer (some ⟨q, 32, none⟩)) rfl (by kernel_rfl) (by kernel_rfl) (by kernel_rfl) (fun _ _ _ h => h) (Or.inl ⟨by rfl, ?_⟩) trivial ?_
  · intro w' hSw; go_simp
  change wpAnyH _ _ _ _ _ _ _ { tmps := #[_, _, _, _, _, _, _, _, _, _, _, _, _, _, _, _, _, _, _, _, _, _, _, _, _, _, _, _, _], defers := [] } _
  refine wpAnyH_take (i := 1) (v := .slice (some ⟨q, 32, none⟩) 32 32) rfl (by kernel_rfl) (by kernel_rfl) (by kernel_rfl) (fun _ _ _ h => h) (Or.inl ⟨by rfl, ?_⟩) trivial ?_
  · intro w' hSw; go_simp
  change wpAnyH _ _ _ _ _ _ _ { tmps := #[_, _, _, _, _, _, _, _, _, _, _, _, _, _, _, _, _, _, _, _, _, _, _, _, _, _, _, _, _], defers := [] } _
  refine wpAnyH_take (i := 2) (v := .string BO) rfl (by kernel_rfl) (by kernel_rfl) (by kernel_rfl) (fun _ _ _ h => h) (Or.inl ⟨by rfl, ?_⟩) trivial ?_
  · intro w' hSw; go_simp
  change wpAnyH _ _ _ _ _ _ _ { tmps := #[_, _, _, _, _, _, _, _, _, _, _, _, _, _, _, _, _, _, _, _, _, _, _, _, _, _, _, _, _], defers := [] } _
  refine wpAnyH_take (i := 3) (v := .string S2) rfl (by kernel_rfl) (by kernel_rfl) (by kernel_rfl) (fun _ _ _ h => h) (Or.inl ⟨by rfl, ?_⟩) trivial ?_
  · intro w' hSw; go_simp
  change wpAnyH _ _ _ _ _ _ _ { tmps := #[_, _, _, _, _, _, _, _, _, _, _, _, _, _, _, _, _, _, _, _, _, _, _, _, _, _, _, _, _], defers := [] } _
  have Qd9 : Row8 w9.drew q 64 64 (fun i => if i < 32 then G i else 0) := Q9.out.drewK
  have Pd9 : Row8 w9.drew w.heap.size 64 64 (fun _ => 0) := P9.out.drewK
  have CP : ∀ ty, (Builtin.copy_ #[25, 9] ty #[.slice (some ⟨q, 32, none⟩) 32 32, .string S2]).run Tryd.prog w9.drew = .ok (goInt 32) (w9.drew.setCells q 32 (bv 32 (strB S2))) := fun ty => by
    have h := run_copy_leM (P := Tryd.prog) w9.drew 25 9 ty 5 q 32 32 32 S2 (bv 32 (strB S2)) Tryd.underlying25 SZ.out (by omega) (bv_textM S2 32 (by omega)) (fun j hj => by rw [bv_length] at hj; have := (Qd9.there (32 + j) (by omega)).1; rwa [Nat.zero_add] at this) (fun j hj => by rw [bv_length] at hj; have := (Qd9.there (32 + j) (by omega)).2; rwa [Nat.zero_add] at this)
    rw [bv_length] at h
    exact h
  have Q10 : Hid (Row8 (w9.drew.setCells q 32 (bv 32 (strB S2))) q 64 64 G) := (rowIs_setCells (bv 32 (strB S2)) 32 w9.drew _ Qd9).congr (fun i hi => by
    rw [bv_length]
    show (if 32 ≤ i ∧ i < 32 + 32 then _ else Value.int .u8 (((if i < 32 then G i else 0) : Nat) : Int)) = _
    by_cases h : 32 ≤ i
    · rw [if_pos (by omega), List.getD_eq_getElem?_getD, bv_at (by omega), HE2.out (i - 32) (by omega), show 32 + (i - 32) = i from by omega]; rfl
    · rw [if_neg (by omega), if_pos (by omega)])
  have P10 : Hid (Row8 (w9.drew.setCells q 32 (bv 32 (strB S2))) w.heap.size 64 64 (fun _ => 0)) := Pd9.storedOther (by omega) _ _
  have B10 : Hid (Below w.heap.size w (w9.drew.setCells q 32 (bv 32 (strB S2)))) := below_setCells (by omega) _ _ _ B9.out.drew
  refine wpAnyH_ready (rs := [4]) (by kernel_rfl) (by simp) ?_
  refine AllReadyH.cons rfl (fun KK hK => ?_) AllReadyH.nil
  go_simp
  refine hK.out _ _ trivial (fun _ => ?_)
  clear hK KK CP Q9 P9 B9 Qd9 Pd9
  generalize w9.drew.setCells q 32 (bv 32 (strB S2)) = w10 at *
  change wpAnyH _ _ _ _ _ _ _ { tmps := #[_, _, _, _, _, _, _, _, _, _, _, _, _, _, _, _, _, _, _, _, _, _, _, _, _, _, _, _, _], defers := [] } _
  refine wpAnyH_done (by kernel_rfl) ?_ _
  refine NoPanic.normal ?_
  go_upto_region 6 with fail
  refine wp_region_lit ?_
  refine wpList_load_mid rfl 64 (.tmp 5) rfl q 0 rfl (bv 64 G) _ Q10.out.range Tryd.underlying64 rfl (by rw [bv_length]; exact Tryd.sizeKp) ?_
  refine wpList_store_mid rfl 64 (.tmp 2) (.tmp 28) rfl w.heap.size 0 (bA 64 G) rfl rfl (by rw [bA_size]; exact P10.out.there) (by rw [bA_size]; exact Tryd.sizeKp) (bA_one _ _) ?_
  rw [bA_toList]
  have L : Hid ((loadVar 64 ⟨w.heap.size, 0, none⟩).run Tryd.prog (w10.setCells (w.heap.size) 0 (bv 64 G)) = .ok (.agg (bA 64 G)) (w10.setCells (w.heap.size) 0 (bv 64 G))) := (P10.out.stored _).load Tryd.underlying64 rfl Tryd.sizeKp
  have B : Hid (Below w.heap.size w (w10.setCells (w.heap.size) 0 (bv 64 G))) := below_setCells (Nat.le_refl _) _ _ _ B10.out
  have eA : (bv 64 G).toArray = bA 64 G := rfl
  rw [eA]
  generalize w10.setCells (w.heap.size) 0 (bv 64 G) = wf at *
  generalize hA : bA 64 G = AA at *
  have HA : Hid (bA 64 G = AA) := hA
  clear hA eA hx1 hx2 hbs hS1 hS2 hss hk z1 hq Q10 P10 B10 HE1 HE2 SZ
  go_wp2
  rw [HA.out]
  change bodyPost _ _ _ _ { tmps := #[_, _, _, _, _, _, _, _, _, _, _, _, _, _, _, _, _, _, _, _, _, _, _, _, _, _, _, _, _], defers := [] } _
  exact bodyPost_ret (v := .agg AA) (results_cell_one (b := w.heap.size) (o := 0) Tryd.results39 _ _ _ rfl L.out) rfl ⟨rfl, B.out⟩
end Go.Proofs.YtbecnaabmlkjjabDoor

/-
  The deferred call that wipes a pair of keys.
-/
namespace Go.Proofs.YtbecnaabmlkjjabDoor
open Go.ChangeShapes Go.WideShapes Go.ChangeAt Go.RowKit
theorem onlyB_setCellsK {b : Nat} {a : World} (vs : List Value) : ∀ (o : Nat) (w : World), OnlyB b a w → OnlyB b a (w.setCells b o vs) := by
  induction vs with
  | nil => intro o w h; exact h
  | cons v vs ih => intro o w h; exact ih (o + 1) _ (h.setCell o v)
theorem zeros_one : (Array.replicate 64 (Value.int .u8 0)).all (·.oneCell') = true := by kernel_rfl
set_option maxRecDepth 100000 in
theorem forget_deferred (b : Nat) (u : FrameMode) (w : World) (hth : w.there b 0 64) :
    CallsD Tryd.prog 40 #[.pointer (some ⟨b, 0, none⟩)] u w fun e u' w' => u' = u ∧ (e = .returned (.tuple #[]) ∧ OnlyB b w w') := by
  have z1 := Tryd.zeroKp
  have zs : Hid ((Array.replicate 64 (Value.int .u8 0)).size = 64) := Array.size_replicate
  have zo : Hid ((Array.replicate 64 (Value.int .u8 0)).all (·.oneCell') = true) := zeros_one
  generalize Array.replicate 64 (Value.int .u8 0) = Z at *
  have TH : Hid (w.there b 0 Z.size) := by show w.there b 0 Z.size; rw [zs.out]; exact hth
  have SZ : Hid ((Tryd.prog.info? 64).map (·.size) = some Z.size) := by show _ = _; rw [zs.out]; exact Tryd.sizeKp
  have O : Hid (OnlyB b w (w.setCells b 0 Z.toList)) := onlyB_setCellsK _ _ _ (OnlyB.refl _ _)
  clear hth
  go_enter_d Tryd.func40, Tryd.ntmps40
  go_wp2_with (refine wpList_store_mid rfl 64 (.tmp 4) (.tmp 3) rfl b 0 Z rfl rfl TH.out SZ.out zo.out ?_; generalize w.setCells b 0 Z.toList = wf at *)
  go_end0
  exact ⟨rfl, O.out⟩
end Go.Proofs.YtbecnaabmlkjjabDoor

/-
  Contracts of the byte functions of the program and of the model: doubling, products, inverses, the test of a byte: each returns what the plain functions of YtbecnaabmlkjjabDoorGf compute, for all bytes, and leaves the world as it was.
-/
namespace Go.Proofs.YtbecnaabmlkjjabDoor
open Go.ChangeShapes Go.WideShapes Go.ChangeAt Go.RowKit

theorem i64_xor_nat (a b : Nat) (ha : a < 65536) (hb : b < 65536) : bits .xor .i64 (a : Int) (b : Int) = ((a ^^^ b : Nat) : Int) := by
  have hx : a ^^^ b < 2 ^ 16 := Nat.xor_lt_two_pow (by omega) (by omega)
  show IntKind.i64.wrap ((BitVec.ofInt 64 (a : Int) ^^^ BitVec.ofInt 64 (b : Int)).toNat : Int) = _
  rw [BitVec.toNat_xor, BitVec.ofInt_natCast, BitVec.toNat_ofNat, BitVec.ofInt_natCast, BitVec.toNat_ofNat, Nat.mod_eq_of_lt (by omega), Nat.mod_eq_of_lt (by omega)]
  simp [IntKind.wrap, IntKind.bits, IntKind.signed]
  omega
theorem i64_and1_nat (a : Nat) (ha : a < 65536) : bits .and .i64 (a : Int) 1 = ((a % 2 : Nat) : Int) := by
  have hx : a &&& 1 = a % 2 := Nat.and_one_is_mod a
  show IntKind.i64.wrap ((BitVec.ofInt 64 (a : Int) &&& BitVec.ofInt 64 ((1 : Nat) : Int)).toNat : Int) = _
  rw [BitVec.toNat_and, BitVec.ofInt_natCast, BitVec.toNat_ofNat, BitVec.ofInt_natCast, BitVec.toNat_ofNat, Nat.mod_eq_of_lt (by omega), Nat.mod_eq_of_lt (by omega), hx]
  simp [IntKind.wrap, IntKind.bits, IntKind.signed]
  omega
theorem u8_and1_nat (a : Nat) (ha : a < 256) : bits .and .u8 (a : Int) 1 = ((a % 2 : Nat) : Int) := by
  have := u8_and_nat a 1 ha (by omega)
  rw [Nat.and_one_is_mod] at this
  exact this
theorem ret_int {k : IntKind} {a b : Int} (h : a = b) : Ending.returned (.int k a) = .returned (.int k b) := by rw [h]
theorem val_int {k : IntKind} {a b : Int} (h : a = b) : Value.int k a = .int k b := by rw [h]
theorem cast_div (b k : Nat) : (b : Int) / 2 ^ k = ((b / 2 ^ k : Nat) : Int) := by simp
theorem and_yes {b k : Nat} (hb : b < 256) (h : (bits BinOp.and IntKind.i64 ((b : Int) / 2 ^ k) 1 == 1) = true) : b / 2 ^ k % 2 = 1 := by
  have hl : b / 2 ^ k < 65536 := Nat.lt_of_le_of_lt (Nat.div_le_self _ _) (by omega)
  rw [cast_div, i64_and1_nat _ hl] at h
  generalize b / 2 ^ k = B at *
  rcases Nat.mod_two_eq_zero_or_one B with e | e <;> rw [e] at h ⊢ <;> simp at h
theorem and_no {b k : Nat} (hb : b < 256) (h : (bits BinOp.and IntKind.i64 ((b : Int) / 2 ^ k) 1 == 1) = false) : b / 2 ^ k % 2 = 0 := by
  have hl : b / 2 ^ k < 65536 := Nat.lt_of_le_of_lt (Nat.div_le_self _ _) (by omega)
  rw [cast_div, i64_and1_nat _ hl] at h
  generalize b / 2 ^ k = B at *
  rcases Nat.mod_two_eq_zero_or_one B with e | e <;> rw [e] at h ⊢ <;> simp at h
theorem dbl_yes (A : Nat) (hA : A < 256) (h : (255 : Int) < A * 2) : bits BinOp.xor IntKind.i64 ((A : Int) * 2) 283 = ((Gf.dbl A : Nat) : Int) := by
  have := i64_xor_nat (A * 2) 283 (by omega) (by omega)
  unfold Gf.dbl
  rw [if_pos (by omega)]
  exact this
theorem dbl_no (A : Nat) (h : (A : Int) * 2 ≤ 255) : (A : Int) * 2 = ((Gf.dbl A : Nat) : Int) := by
  unfold Gf.dbl
  rw [if_neg (by omega)]
  rfl

/-- spec.l01Mul -/
theorem mul_any (a b : Nat) (h1 : a < 256) (h3 : b < 256) (w : World) :
    Calls Tryd.prog 57 #[.int .i64 a, .int .i64 b] w fun e w' => e = .returned (.int .i64 (Gf.mul a b : Nat)) ∧ w' = w := by
  go_enter Tryd.func57, Tryd.ntmps57
  go_wp2
  go_loop [0, 5, 6] (fun x o i => ∃ k : Nat, k ≤ 8 ∧ i = .int .i64 k ∧ x = .int .i64 ((Gf.mulTo k a b).1 : Nat) ∧ o = .int .i64 ((Gf.mulTo k a b).2 : Nat)) (fun _ _ i => 8 - (intOf i).toNat)
  case atStart => exact ⟨0, by omega, rfl, rfl, rfl⟩
  case round =>
    obtain ⟨k, hk, rfl, rfl, rfl⟩ := hrel
    have hl := Gf.mulTo_lt k a b h1
    have e1 := Gf.mulTo_fst k a b
    have e2 := Gf.mulTo_yes k a b
    have e3 := Gf.mulTo_no k a b
    have E1 : Hid ((Gf.mulTo (k + 1) a b).1 = Gf.dbl (Gf.mulTo k a b).1) := e1
    have E2 : Hid (b / 2 ^ k % 2 = 1 → (Gf.mulTo (k + 1) a b).2 = (Gf.mulTo k a b).2 ^^^ (Gf.mulTo k a b).1) := e2
    have E3 : Hid (b / 2 ^ k % 2 = 0 → (Gf.mulTo (k + 1) a b).2 = (Gf.mulTo k a b).2) := e3
    have E4 : Hid (k = 8 → (Gf.mulTo k a b).2 = Gf.mul a b) := by intro h; subst h; rfl
    clear e1 e2 e3
    generalize (Gf.mulTo k a b).1 = A at *
    generalize (Gf.mulTo k a b).2 = O at *
    obtain ⟨hA, hO⟩ := hl
    by_cases hlt : k < 8
    · go_wp2
      all_goals
        go_round
        case rel =>
          refine ⟨k + 1, by omega, by go_num, val_int ?_, val_int ?_⟩
          · rw [E1.out]; first | exact dbl_yes A hA (by assumption) | exact dbl_no A (by assumption)
          · first | (rw [E2.out (and_yes h3 (by assumption))]; exact i64_xor_nat O A (by omega) (by omega)) | (rw [E3.out (and_no h3 (by assumption))])
        case measure => simp [intOf]; omega
    · go_wp2
      go_ret
      exact ⟨ret_int (by rw [E4.out (by omega)]), rfl⟩

/-- impl.double -/
theorem double_any (a : Nat) (h1 : a < 256) (w : World) :
    Calls Tryd.prog 90 #[.int .u8 a] w fun e w' => e = .returned (.int .u8 (Gf.dbl a : Nat)) ∧ w' = w := by
  have E : Hid (bits BinOp.xor IntKind.u8 ((a : Int) * 2 % 256) ((a : Int) / 128 * 27) = ((Gf.dbl a : Nat) : Int)) := by
    have := u8_xor_nat (a * 2 % 256) (a / 128 * 27) (by omega) (by omega)
    rw [← Gf.dblB_eq_fin a h1]
    exact this
  go_enter Tryd.func90, Tryd.ntmps90
  go_wp2
  go_ret
  exact ⟨ret_int E.out, rfl⟩

end Go.Proofs.YtbecnaabmlkjjabDoor

/-
  The contract of impl.added: two states are summed byte by byte.
-/
namespace Go.Proofs.YtbecnaabmlkjjabDoor
open Go.ChangeShapes Go.WideShapes Go.ChangeAt Go.RowKit
theorem Tryd.sizeSt : (Tryd.prog.info? 96).map (·.size) = some 16 := by kernel_rfl
theorem idxSt {f : Nat → Nat} {k : Nat} (h : k < 16) (w : World) : (Instr.index 96 (.agg (bA 16 f)) (.int .i64 (k : Int))).run Tryd.prog w = .ok (.int .u8 (f k : Nat)) w :=
  run_index_flat Tryd.underlying96 Tryd.underlying5 rfl (by kernel_rfl) h (bA_at h) w
set_option maxRecDepth 100000 in
theorem added_any (f g : Nat → Nat) (hf : ∀ i, i < 16 → f i < 256) (hg : ∀ i, i < 16 → g i < 256) (w : World) :
    Calls Tryd.prog 83 #[.agg (bA 16 f), .agg (bA 16 g)] w fun e w' => e = .returned (.agg (bA 16 (fun i => f i ^^^ g i))) ∧ Below w.heap.size w w' := by
  have HF : Hid (∀ i, i < 16 → f i < 256) := hf
  have HG : Hid (∀ i, i < 16 → g i < 256) := hg
  clear hf hg
  have R0 : Hid (Row8 ((w.alloc (.cells (bA 16 f) 96)).alloc (.cells (bA 16 g) 96)) (w.heap.size + 1) 96 16 g) := Row8.boxedAt (by simp) _ _ _
  go_enter Tryd.func83, Tryd.ntmps83
  go_wp2_with (refine wpList_load_mid rfl 96 (.tmp 3) rfl (w.heap.size + 1) 0 rfl (bv 16 g) _ (R0.out.alloc _).range Tryd.underlying96 rfl (by rw [bv_length]; exact Tryd.sizeSt) ?_)
  have Z' : Hid (Row8 (((w.alloc (.cells (bA 16 f) 96)).alloc (.cells (bA 16 g) 96)).alloc (.cells z16 96)) (w.heap.size + 1 + 1) 96 16 (fun _ => 0)) := Row8.z16At (by simp) _
  have R3' : Hid (Row8 (((w.alloc (.cells (bA 16 f) 96)).alloc (.cells (bA 16 g) 96)).alloc (.cells z16 96)) w.heap.size 96 16 f) := ((Row8.boxedAt rfl _ _ _).alloc _).alloc _
  have B3 : Hid (Below w.heap.size w (((w.alloc (.cells (bA 16 f) 96)).alloc (.cells (bA 16 g) 96)).alloc (.cells z16 96))) := (((Below.refl _ _).alloc (Nat.le_refl _) _).alloc (by simp) _).alloc (by simp; omega) _
  clear R0
  unfold z16 at Z' R3' B3
  generalize ((w.alloc (.cells (bA 16 f) 96)).alloc (.cells (bA 16 g) 96)).alloc (.cells #[.int .u8 0, .int .u8 0, .int .u8 0, .int .u8 0, .int .u8 0, .int .u8 0, .int .u8 0, .int .u8 0, .int .u8 0, .int .u8 0, .int .u8 0, .int .u8 0, .int .u8 0, .int .u8 0, .int .u8 0, .int .u8 0] 96) = wz at *
  have eA : (bv 16 g).toArray = bA 16 g := rfl
  rw [eA]
  clear eA
  go_loopw [5, 6, 8] (fun _ _ i wr => ∃ k : Nat, k ≤ 16 ∧ i = .int .i64 k ∧ Row8 wr w.heap.size 96 16 (fun j => if j < k then f j ^^^ g j else f j) ∧ Row8 wr (w.heap.size + 1 + 1) 96 16 (fun _ => 0) ∧ Below w.heap.size w wr) (fun _ _ i _ => 16 - (intOf i).toNat)
  case atStart => exact ⟨0, by omega, rfl, R3'.out.congr (fun j hj => by simp), Z'.out, B3.out⟩
  case round =>
    obtain ⟨k, hk, rfl, hr, hz, hb⟩ := hrel
    have HR : Hid (Row8 wr w.heap.size 96 16 (fun j => if j < k then f j ^^^ g j else f j)) := hr
    have HZ : Hid (Row8 wr (w.heap.size + 1 + 1) 96 16 (fun _ => 0)) := hz
    have HB : Hid (Below w.heap.size w wr) := hb
    by_cases hlt : k < 16
    · have c1 := World.rowIs.cell hr hlt
      have f1 := World.rowIs.frozen hr k
      simp only [Nat.lt_irrefl, if_false] at c1
      have ix := idxSt (f := g) hlt
      have lf := HF.out k hlt
      have lg := HG.out k hlt
      have ex : bits .xor .u8 (f k : Int) (g k : Int) = ((f k ^^^ g k : Nat) : Int) := u8_xor_nat _ _ lf lg
      clear hr hz hb Z' R3' B3
      go_wp2
      go_roundw
      case rel =>
        refine ⟨k + 1, by omega, by go_num, ?_, HZ.out.other (by show w.heap.size + 1 + 1 ≠ w.heap.size; omega) _, HB.out.setCell (by exact Nat.le_refl _) _⟩
        exact (HR.out.set k (f k ^^^ g k)).congr (fun j hj => by
          by_cases e : j = k
          · subst e; simp
          · simp only [if_neg e]
            by_cases h1 : j < k
            · rw [if_pos h1, if_pos (by omega)]
            · rw [if_neg h1, if_neg (by omega)])
      case measure => simp [intOf]; omega
    · have HR' : Hid (Row8 wr w.heap.size 96 16 (fun j => f j ^^^ g j)) := hr.congr (fun j hj => by rw [if_pos (by omega)])
      clear hr hz hb Z' R3' B3 HR
      go_wp2_with (first
        | (refine wpList_load_mid rfl 96 (.tmp 2) rfl w.heap.size 0 rfl (bv 16 (fun j => f j ^^^ g j)) _ HR'.out.range Tryd.underlying96 rfl (by rw [bv_length]; exact Tryd.sizeSt) ?_)
        | (refine wpList_store_mid rfl 96 (.tmp 4) (.tmp 19) rfl (w.heap.size + 1 + 1) 0 (bA 16 (fun j => f j ^^^ g j)) rfl rfl (by rw [bA_size]; exact HZ.out.there) (by rw [bA_size]; exact Tryd.sizeSt) (bA_one _ _) ?_))
      rw [bA_toList]
      have L : (loadVar 96 ⟨w.heap.size + 1 + 1, 0, none⟩).run Tryd.prog (wr.setCells (w.heap.size + 1 + 1) 0 (bv 16 (fun j => f j ^^^ g j))) = .ok (.agg (bA 16 (fun j => f j ^^^ g j))) (wr.setCells (w.heap.size + 1 + 1) 0 (bv 16 (fun j => f j ^^^ g j))) := (HZ.out.stored _).load Tryd.underlying96 rfl Tryd.sizeSt
      have B : Below w.heap.size w (wr.setCells (w.heap.size + 1 + 1) 0 (bv 16 (fun j => f j ^^^ g j))) := below_setCells (by omega) _ _ _ HB.out
      exact bodyPost_ret (v := .agg (bA 16 (fun j => f j ^^^ g j))) (results_cell_one (b := w.heap.size + 1 + 1) (o := 0) Tryd.results83 _ _ _ rfl L) rfl ⟨rfl, B⟩
end Go.Proofs.YtbecnaabmlkjjabDoor

/-
  What an index of a column (an array of four bytes, as a value) is.
-/
namespace Go.Proofs.YtbecnaabmlkjjabDoor
open Go.ChangeShapes Go.WideShapes Go.ChangeAt Go.RowKit
theorem Tryd.sizeU8 : (Tryd.prog.info? 5).map (·.size) = some 1 := by kernel_rfl
theorem idx0 (x0 x1 x2 x3 : Int) (w : World) : (Instr.index 130 (.agg #[.int .u8 x0, .int .u8 x1, .int .u8 x2, .int .u8 x3]) (.int .i64 0)).run Tryd.prog w = .ok (.int .u8 x0) w := run_index_flat (k := 0) Tryd.underlying130 Tryd.underlying5 rfl Tryd.sizeU8 (by omega) rfl w
theorem idx1 (x0 x1 x2 x3 : Int) (w : World) : (Instr.index 130 (.agg #[.int .u8 x0, .int .u8 x1, .int .u8 x2, .int .u8 x3]) (.int .i64 1)).run Tryd.prog w = .ok (.int .u8 x1) w := run_index_flat (k := 1) Tryd.underlying130 Tryd.underlying5 rfl Tryd.sizeU8 (by omega) rfl w
theorem idx2 (x0 x1 x2 x3 : Int) (w : World) : (Instr.index 130 (.agg #[.int .u8 x0, .int .u8 x1, .int .u8 x2, .int .u8 x3]) (.int .i64 2)).run Tryd.prog w = .ok (.int .u8 x2) w := run_index_flat (k := 2) Tryd.underlying130 Tryd.underlying5 rfl Tryd.sizeU8 (by omega) rfl w
theorem idx3 (x0 x1 x2 x3 : Int) (w : World) : (Instr.index 130 (.agg #[.int .u8 x0, .int .u8 x1, .int .u8 x2, .int .u8 x3]) (.int .i64 3)).run Tryd.prog w = .ok (.int .u8 x3) w := run_index_flat (k := 3) Tryd.underlying130 Tryd.underlying5 rfl Tryd.sizeU8 (by omega) rfl w
end Go.Proofs.YtbecnaabmlkjjabDoor

/-
  Contracts of the substitutes of bytes in the program and in the model (turned bits, the spread and the gathering of bits, SubByte): each returns what plain functions of numbers compute, for all bytes, and leaves the world as it was.
-/
namespace Go.Proofs.YtbecnaabmlkjjabDoor
open Go.ChangeShapes Go.WideShapes Go.ChangeAt Go.RowKit

namespace Gf
def rotl (a n : Nat) : Nat := (a * 2 ^ n % 256) ||| (a / 2 ^ (8 - n))
def spTo : Nat → Nat → Nat
  | 0, a => a ^^^ 99
  | k + 1, a => spTo k a ^^^ rotl a (k + 1)
/-- The spread of a byte's bits, and 0x63. -/
def spread (a : Nat) : Nat := spTo 4 a
def gather (a : Nat) : Nat := ((rotl a 1 ^^^ rotl a 3) ^^^ rotl a 6) ^^^ 5
def rot1 (x : Nat) : Nat := x * 2 % 256 + x / 128
def affTo : Nat → Nat → Nat × Nat
  | 0, a => (a, a ^^^ 99)
  | k + 1, a => (rot1 (affTo k a).1, (affTo k a).2 ^^^ rot1 (affTo k a).1)
theorem aff_eq : ∀ a, a < 256 → (affTo 4 a).2 = spread a := by decide +kernel
theorem rot1_lt (x : Nat) (h : x < 256) : rot1 x < 256 := by unfold rot1; omega
theorem or_lt {a b : Nat} (ha : a < 256) (hb : b < 256) : a ||| b < 256 := Nat.or_lt_two_pow (n := 8) ha hb
theorem rotl_lt (x n : Nat) (h : x < 256) : rotl x n < 256 := or_lt (by omega) (Nat.lt_of_le_of_lt (Nat.div_le_self _ _) h)
theorem affTo_lt (k a : Nat) (h : a < 256) : (affTo k a).1 < 256 ∧ (affTo k a).2 < 256 := by
  induction k with
  | zero => exact ⟨h, xor_lt h (by omega)⟩
  | succ k ih => exact ⟨rot1_lt _ ih.1, xor_lt ih.2 (rot1_lt _ ih.1)⟩
theorem spTo_lt (k a : Nat) (h : a < 256) : spTo k a < 256 := by
  induction k with
  | zero => exact xor_lt h (by omega)
  | succ k ih => exact xor_lt ih (rotl_lt _ _ h)
theorem spread_lt (a : Nat) (h : a < 256) : spread a < 256 := spTo_lt 4 a h
theorem gather_lt (a : Nat) (h : a < 256) : gather a < 256 := xor_lt (xor_lt (xor_lt (rotl_lt _ _ h) (rotl_lt _ _ h)) (rotl_lt _ _ h)) (by omega)
/-- The substitute of a byte, and that whose substitute it is. -/
def sub (a : Nat) : Nat := spread (inv a)
def unsub (a : Nat) : Nat := inv (gather a)
theorem sub_lt (a : Nat) (h : a < 256) : sub a < 256 := spread_lt _ (inv_lt a h)
theorem unsub_lt (a : Nat) (h : a < 256) : unsub a < 256 := inv_lt _ (gather_lt a h)
end Gf

theorem rot_end (a m d : Nat) (ha : a < 256) : bits BinOp.or IntKind.u8 ((a : Int) * m % 256) ((a : Int) / d) = ((a * m % 256 ||| a / d : Nat) : Int) := by
  have := u8_or_nat (a * m % 256) (a / d) (by omega) (Nat.lt_of_le_of_lt (Nat.div_le_self _ _) ha)
  rw [← this]
  congr 1
/-- math/bits.RotateLeft8, at the counts that are met. -/
theorem rot_any (a n : Nat) (ha : a < 256) (h : n = 1 ∨ n = 2 ∨ n = 3 ∨ n = 4 ∨ n = 6) (w : World) :
    Calls Tryd.prog 97 #[.int .u8 a, .int .i64 n] w fun e w' => e = .returned (.int .u8 (Gf.rotl a n : Nat)) ∧ w' = w := by
  have e1 : bits BinOp.and IntKind.u64 1 7 = 1 := by decide
  have e2 : bits BinOp.and IntKind.u64 2 7 = 2 := by decide
  have e3 : bits BinOp.and IntKind.u64 3 7 = 3 := by decide
  have e4 : bits BinOp.and IntKind.u64 4 7 = 4 := by decide
  have e6 : bits BinOp.and IntKind.u64 6 7 = 6 := by decide
  rcases h with rfl | rfl | rfl | rfl | rfl
  · go_enter Tryd.func97, Tryd.ntmps97
    go_wp2
    go_ret
    exact ⟨ret_int (rot_end a 2 128 ha), rfl⟩
  · go_enter Tryd.func97, Tryd.ntmps97
    go_wp2
    go_ret
    exact ⟨ret_int (rot_end a 4 64 ha), rfl⟩
  · go_enter Tryd.func97, Tryd.ntmps97
    go_wp2
    go_ret
    exact ⟨ret_int (rot_end a 8 32 ha), rfl⟩
  · go_enter Tryd.func97, Tryd.ntmps97
    go_wp2
    go_ret
    exact ⟨ret_int (rot_end a 16 16 ha), rfl⟩
  · go_enter Tryd.func97, Tryd.ntmps97
    go_wp2
    go_ret
    exact ⟨ret_int (rot_end a 64 4 ha), rfl⟩
/-- impl.spreadBits -/
theorem spreadBits_any (a : Nat) (ha : a < 256) (w : World) :
    Calls Tryd.prog 91 #[.int .u8 a] w fun e w' => e = .returned (.int .u8 (Gf.spread a : Nat)) ∧ w' = w := by
  have E0 : Hid (bits BinOp.xor IntKind.u8 (a : Int) 99 = ((Gf.spTo 0 a : Nat) : Int)) := u8_xor_nat a 99 ha (by omega)
  go_enter Tryd.func91, Tryd.ntmps91
  go_wp2
  go_loop [3, 4] (fun o i => ∃ k : Nat, k ≤ 4 ∧ i = .int .i64 (k + 1 : Nat) ∧ o = .int .u8 (Gf.spTo k a : Nat)) (fun _ i => 5 - (intOf i).toNat)
  case atStart => exact ⟨0, by omega, rfl, val_int E0.out⟩
  case round =>
    obtain ⟨k, hk, rfl, rfl⟩ := hrel
    have hl := Gf.spTo_lt k a ha
    have hr := Gf.rotl_lt a (k + 1) ha
    have E1 : Hid (Gf.spTo (k + 1) a = Gf.spTo k a ^^^ Gf.rotl a (k + 1)) := rfl
    have E2 : Hid (k = 4 → Gf.spTo k a = Gf.spread a) := by intro h; subst h; rfl
    generalize Gf.spTo k a = O at *
    by_cases hlt : k < 4
    · have hn : Hid (k + 1 = 1 ∨ k + 1 = 2 ∨ k + 1 = 3 ∨ k + 1 = 4 ∨ k + 1 = 6) := by show _ ∨ _; omega
      go_wp2_with fail
      refine (rot_any a (k + 1) ha hn.out _).mono ?_; rintro e w' ⟨rfl, rfl⟩
      generalize Gf.rotl a (k + 1) = R at *
      go_wp2_with fail
      go_round
      case rel => exact ⟨k + 1, by omega, by go_num, val_int (by rw [E1.out]; exact u8_xor_nat O R hl hr)⟩
      case measure => simp [intOf]; omega
    · go_wp2
      go_ret
      exact ⟨ret_int (by rw [E2.out (by omega)]), rfl⟩
/-- spec.l01Affine -/
theorem affine_any (a : Nat) (ha : a < 256) (w : World) :
    Calls Tryd.prog 56 #[.int .i64 a] w fun e w' => e = .returned (.int .i64 (Gf.spread a : Nat)) ∧ w' = w := by
  have E0 : Hid (bits BinOp.xor IntKind.i64 (a : Int) 99 = (((Gf.affTo 0 a).2 : Nat) : Int)) := i64_xor_nat a 99 (by omega) (by omega)
  go_enter Tryd.func56, Tryd.ntmps56
  go_wp2
  go_loop [0, 3, 4] (fun x o i => ∃ k : Nat, k ≤ 4 ∧ i = .int .i64 k ∧ x = .int .i64 ((Gf.affTo k a).1 : Nat) ∧ o = .int .i64 ((Gf.affTo k a).2 : Nat)) (fun _ _ i => 4 - (intOf i).toNat)
  case atStart => exact ⟨0, by omega, rfl, rfl, val_int E0.out⟩
  case round =>
    obtain ⟨k, hk, rfl, rfl, rfl⟩ := hrel
    have hl := Gf.affTo_lt k a ha
    have E1 : Hid ((Gf.affTo (k + 1) a).1 = Gf.rot1 (Gf.affTo k a).1) := rfl
    have E3 : Hid ((Gf.affTo (k + 1) a).2 = (Gf.affTo k a).2 ^^^ Gf.rot1 (Gf.affTo k a).1) := rfl
    have E2 : Hid (k = 4 → (Gf.affTo k a).2 = Gf.spread a) := by intro h; subst h; exact Gf.aff_eq a ha
    generalize (Gf.affTo k a).1 = A at *
    generalize (Gf.affTo k a).2 = O at *
    obtain ⟨hA, hO⟩ := hl
    by_cases hlt : k < 4
    · have hR : A * 2 % 256 + A / 128 < 256 := by omega
      go_wp2
      go_round
      case rel => exact ⟨k + 1, by omega, by go_num, val_int (by rw [E1.out]; rfl), val_int (by rw [E3.out]; exact i64_xor_nat O (A * 2 % 256 + A / 128) (by omega) (by omega))⟩
      case measure => simp [intOf]; omega
    · go_wp2
      go_ret
      exact ⟨ret_int (by rw [E2.out (by omega)]), rfl⟩
end Go.Proofs.YtbecnaabmlkjjabDoor
