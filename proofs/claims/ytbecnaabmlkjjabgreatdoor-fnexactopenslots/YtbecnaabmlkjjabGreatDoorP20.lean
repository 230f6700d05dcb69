/-
  Texts of the proof, joined: Mixed, Encrypt, KImpl, EImpl.
-/
import Derived.Test.YtbecnaabmlkjjabGreatDoorP18
import Derived.Test.YtbecnaabmlkjjabGreatDoorP14
import Derived.Deep.RegionHeld3
import Derived.Deep.Cut
import Derived.Test.YtbecnaabmlkjjabGreatDoorP19
import Derived.Deep.CutRange
import Derived.Deep.DeepCutAuto
namespace Go.Proofs.YtbecnaabmlkjjabGreatDoor
open Go.ChangeShapes Go.WideShapes Go.ChangeAt Go.RowKit
theorem four_keep {w w1 : World} {b o x0 x1 x2 x3 : Nat} (h : w.cell? ⟨b, o, none⟩ = some (.int .u8 (x0 : Nat)) ∧ w.cell? ⟨b, o + 1, none⟩ = some (.int .u8 (x1 : Nat)) ∧ w.cell? ⟨b, o + 2, none⟩ = some (.int .u8 (x2 : Nat)) ∧ w.cell? ⟨b, o + 3, none⟩ = some (.int .u8 (x3 : Nat))) (hb : Below w.heap.size w w1) :
    w1.cell? ⟨b, o, none⟩ = some (.int .u8 (x0 : Nat)) ∧ w1.cell? ⟨b, o + 1, none⟩ = some (.int .u8 (x1 : Nat)) ∧ w1.cell? ⟨b, o + 2, none⟩ = some (.int .u8 (x2 : Nat)) ∧ w1.cell? ⟨b, o + 3, none⟩ = some (.int .u8 (x3 : Nat)) := by
  have hlt := cellBlock h.1
  rw [hb.cell (p := ⟨b, o, none⟩) hlt, hb.cell (p := ⟨b, o + 1, none⟩) hlt, hb.cell (p := ⟨b, o + 2, none⟩) hlt, hb.cell (p := ⟨b, o + 3, none⟩) hlt]
  exact h
set_option maxRecDepth 100000 in
set_option maxHeartbeats 2000000 in
theorem mixed_any (f : Nat → Nat) (hf : ∀ i, i < 16 → f i < 256) (w : World) :
    Calls Tryz.prog 134 #[.agg (bA 16 f)] w fun e w' => e = .returned (.agg (bA 16 (Gf.mixS f))) ∧ Below w.heap.size w w' := by
  have HF : Hid (∀ i, i < 16 → f i < 256) := hf
  clear hf
  have Z' : Hid (Row8 ((w.alloc (.cells (bA 16 f) 159)).alloc (.cells z16 159)) (w.heap.size + 1) 159 16 (fun _ => 0)) := Row8.z16At (by simp) _
  have R3' : Hid (Row8 ((w.alloc (.cells (bA 16 f) 159)).alloc (.cells z16 159)) w.heap.size 159 16 f) := (Row8.boxedAt rfl _ _ _).alloc _
  have B3 : Hid (Below w.heap.size w ((w.alloc (.cells (bA 16 f) 159)).alloc (.cells z16 159))) := ((Below.refl _ _).alloc (Nat.le_refl _) _).alloc (by simp) _
  unfold z16 at Z' R3' B3
  go_enter Tryz.func134, Tryz.ntmps134
  go_wp2
  generalize (w.alloc (.cells (bA 16 f) 159)).alloc (.cells #[.int .u8 0, .int .u8 0, .int .u8 0, .int .u8 0, .int .u8 0, .int .u8 0, .int .u8 0, .int .u8 0, .int .u8 0, .int .u8 0, .int .u8 0, .int .u8 0, .int .u8 0, .int .u8 0, .int .u8 0, .int .u8 0] 159) = wz at *
  go_loopw [3] (fun i wr => ∃ c : Nat, c ≤ 4 ∧ i = .int .i64 ((c * 4 : Nat) : Int) ∧ Row8 wr w.heap.size 159 16 (fun j => if j < c * 4 then Gf.mixS f j else f j) ∧ Row8 wr (w.heap.size + 1) 159 16 (fun _ => 0) ∧ Below w.heap.size w wr) (fun i _ => 16 - (intOf i).toNat)
  case atStart => exact ⟨0, by omega, rfl, R3'.out.congr (fun j hj => by simp), Z'.out, B3.out⟩
  case round =>
    obtain ⟨c, hc, rfl, hr, hz, hb⟩ := hrel
    have HR : Hid (Row8 wr w.heap.size 159 16 (fun j => if j < c * 4 then Gf.mixS f j else f j)) := hr
    have HZ : Hid (Row8 wr (w.heap.size + 1) 159 16 (fun _ => 0)) := hz
    have HB : Hid (Below w.heap.size w wr) := hb
    clear Z' R3' B3
    by_cases hlt : c < 4
    · have c0 : wr.cell? ⟨w.heap.size, c * 4, none⟩ = some (.int .u8 (f (c * 4) : Nat)) := by have := World.rowIs.cell hr (i := c * 4) (by omega); simp only [] at this; rw [if_neg (by omega)] at this; exact this
      have c1 : wr.cell? ⟨w.heap.size, c * 4 + 1, none⟩ = some (.int .u8 (f (c * 4 + 1) : Nat)) := by have := World.rowIs.cell hr (i := c * 4 + 1) (by omega); simp only [] at this; rw [if_neg (by omega)] at this; exact this
      have c2 : wr.cell? ⟨w.heap.size, c * 4 + 2, none⟩ = some (.int .u8 (f (c * 4 + 2) : Nat)) := by have := World.rowIs.cell hr (i := c * 4 + 2) (by omega); simp only [] at this; rw [if_neg (by omega)] at this; exact this
      have c3 : wr.cell? ⟨w.heap.size, c * 4 + 3, none⟩ = some (.int .u8 (f (c * 4 + 3) : Nat)) := by have := World.rowIs.cell hr (i := c * 4 + 3) (by omega); simp only [] at this; rw [if_neg (by omega)] at this; exact this
      have l0 := HF.out (c * 4) (by omega)
      have l1 := HF.out (c * 4 + 1) (by omega)
      have l2 := HF.out (c * 4 + 2) (by omega)
      have l3 := HF.out (c * 4 + 3) (by omega)
      have MX : Hid (∀ r, r < 4 → Gf.mixS f (c * 4 + r) = Gf.mx (f (c * 4)) (f (c * 4 + 1)) (f (c * 4 + 2)) (f (c * 4 + 3)) (f (c * 4 + r)) (f (c * 4 + (r + 1) % 4))) := fun r hr => by
        rw [Gf.mixS, show (c * 4 + r) / 4 * 4 = c * 4 from by omega, show (c * 4 + r) % 4 = r from by omega]; rfl
      have hlt' : c * 4 + 4 ≤ 16 := by omega
      clear hr hz hb
      generalize hO : c * 4 = O at *
      have HO : Hid (c * 4 = O) := hO
      have b0 : (O : Int) < 16 := by omega
      have b1 : (O : Int) + 1 < 16 := by omega
      have b2 : (O : Int) + 2 < 16 := by omega
      have b3 : (O : Int) + 3 < 16 := by omega
      have p0 : (0 : Int) ≤ (O : Int) := by omega
      have p1 : (0 : Int) ≤ (O : Int) + 1 := by omega
      have p2 : (0 : Int) ≤ (O : Int) + 2 := by omega
      have p3 : (0 : Int) ≤ (O : Int) + 3 := by omega
      have t1 : ((O : Int) + 1).toNat = O + 1 := by omega
      have t2 : ((O : Int) + 2).toNat = O + 2 := by omega
      have t3 : ((O : Int) + 3).toNat = O + 3 := by omega
      have v1 : IntKind.i64.wrap ((O : Int) + 1) = O + 1 := IntWalk.i64_in _ ⟨by omega, by omega⟩
      have v2 : IntKind.i64.wrap ((O : Int) + 2) = O + 2 := IntWalk.i64_in _ ⟨by omega, by omega⟩
      have v3 : IntKind.i64.wrap ((O : Int) + 3) = O + 3 := IntWalk.i64_in _ ⟨by omega, by omega⟩
      have M0 := MX.out 0 (by omega)
      have M1 := MX.out 1 (by omega)
      have M2 := MX.out 2 (by omega)
      have M3 := MX.out 3 (by omega)
      have CALL : Hid (∀ w : World, Calls Tryz.prog 145 #[.agg #[.int .u8 (f O : Nat), .int .u8 (f (O + 1) : Nat), .int .u8 (f (O + 2) : Nat), .int .u8 (f (O + 3) : Nat)]] w fun e w' => e = .returned (.agg #[.int .u8 (Gf.mixS f O : Nat), .int .u8 (Gf.mixS f (O + 1) : Nat), .int .u8 (Gf.mixS f (O + 2) : Nat), .int .u8 (Gf.mixS f (O + 3) : Nat)]) ∧ Below w.heap.size w w') := fun w => by
        have := mix_any (f O) (f (O + 1)) (f (O + 2)) (f (O + 3)) l0 l1 l2 l3 w
        rw [Nat.add_zero] at M0
        rw [M0, M1, M2, M3]
        exact this
      have HM : Hid (∀ r, r < 4 → True) := fun _ _ => trivial
      clear M0 M1 M2 M3 MX HM
      generalize hA0 : f O = A0 at c0 l0 CALL
      generalize hA1 : f (O + 1) = A1 at c1 l1 CALL
      generalize hA2 : f (O + 2) = A2 at c2 l2 CALL
      generalize hA3 : f (O + 3) = A3 at c3 l3 CALL
      clear hA0 hA1 hA2 hA3
      go_wp2_with fail
      go_region_held3 (fun w' => w'.cell? ⟨w.heap.size, O, none⟩ = some (.int .u8 (A0 : Nat)) ∧ w'.cell? ⟨w.heap.size, O + 1, none⟩ = some (.int .u8 (A1 : Nat)) ∧ w'.cell? ⟨w.heap.size, O + 2, none⟩ = some (.int .u8 (A2 : Nat)) ∧ w'.cell? ⟨w.heap.size, O + 3, none⟩ = some (.int .u8 (A3 : Nat))) (first | exact four_keep (w := wr.drew) ⟨c0, c1, c2, c3⟩ hb | go_keep)
        ((first | (go_at_call 145; refine (CALL.out _).mono ?_; rintro e w1 ⟨rfl, hb⟩; have HR1 : Hid (Row8 w1 w.heap.size 159 16 (fun j => if j < O then Gf.mixS f j else f j)) := Row8.below (w := wr.drew) HR.out hb; have HZ1 : Hid (Row8 w1 (w.heap.size + 1) 159 16 (fun _ => 0)) := Row8.below (w := wr.drew) HZ.out hb; have HB1 : Hid (Below w.heap.size w w1) := HB.out.drew.trans (hb.mono HB.out.size))))
      clear hb c0 c1 c2 c3 HR HZ HB CALL
      have j0 := idx0
      have j1 := idx1
      have j2 := idx2
      have j3 := idx3
      have hl := World.rowIs.lt HR1.out
      have d0 : w1.cell? ⟨w.heap.size, O, none⟩ = some (.int .u8 (f (O) : Nat)) := by have := World.rowIs.cell HR1.out (i := O) (by omega); simp only [] at this; rw [if_neg (by omega)] at this; exact this
      have d1 : w1.cell? ⟨w.heap.size, O + 1, none⟩ = some (.int .u8 (f (O + 1) : Nat)) := by have := World.rowIs.cell HR1.out (i := O + 1) (by omega); simp only [] at this; rw [if_neg (by omega)] at this; exact this
      have d2 : w1.cell? ⟨w.heap.size, O + 2, none⟩ = some (.int .u8 (f (O + 2) : Nat)) := by have := World.rowIs.cell HR1.out (i := O + 2) (by omega); simp only [] at this; rw [if_neg (by omega)] at this; exact this
      have d3 : w1.cell? ⟨w.heap.size, O + 3, none⟩ = some (.int .u8 (f (O + 3) : Nat)) := by have := World.rowIs.cell HR1.out (i := O + 3) (by omega); simp only [] at this; rw [if_neg (by omega)] at this; exact this
      have f0 := World.rowIs.frozen HR1.out O
      have f1 := World.rowIs.frozen HR1.out (O + 1)
      have f2 := World.rowIs.frozen HR1.out (O + 2)
      have f3 := World.rowIs.frozen HR1.out (O + 3)
      go_wp2
      refine wp_loop_rounds 5 ?_
      rw [rounds_succ]
      go_wp2
      rw [rounds_succ]
      go_wp2
      rw [rounds_succ]
      go_wp2
      rw [rounds_succ]
      go_wp2
      rw [rounds_succ]
      go_wp2
      go_roundw
      case rel =>
        refine ⟨c + 1, by omega, numEq (by have := HO.out; omega), ?_, (((HZ1.out.other (by show w.heap.size + 1 ≠ w.heap.size; omega) _).other (by show w.heap.size + 1 ≠ w.heap.size; omega) _).other (by show w.heap.size + 1 ≠ w.heap.size; omega) _).other (by show w.heap.size + 1 ≠ w.heap.size; omega) _, (((HB1.out.setCell (Nat.le_refl _) _).setCell (Nat.le_refl _) _).setCell (Nat.le_refl _) _).setCell (Nat.le_refl _) _⟩
        exact ((((HR1.out.set O (Gf.mixS f O)).set (O + 1) (Gf.mixS f (O + 1))).set (O + 2) (Gf.mixS f (O + 2))).set (O + 3) (Gf.mixS f (O + 3))).congr (fun j hj => by
          have := HO.out
          by_cases h1 : j < O
          · rw [if_neg (by omega), if_neg (by omega), if_neg (by omega), if_neg (by omega), if_pos h1, if_pos (by omega)]
          · by_cases h2 : j < (c + 1) * 4
            · rw [if_pos h2]
              rcases (show j = O ∨ j = O + 1 ∨ j = O + 2 ∨ j = O + 3 by omega) with rfl | rfl | rfl | rfl <;> simp
            · rw [if_neg (by omega), if_neg (by omega), if_neg (by omega), if_neg (by omega), if_neg h1, if_neg h2])
      case measure => simp [intOf]; omega
    · have HR' : Hid (Row8 wr w.heap.size 159 16 (Gf.mixS f)) := hr.congr (fun j hj => by rw [if_pos (by omega)])
      have hc' : ¬ ((c * 4 : Nat) : Int) < 16 := by omega
      clear hr hz hb HR
      generalize ((c * 4 : Nat) : Int) = cc at *
      generalize hG : Gf.mixS f = G at *
      have HG : Hid (Gf.mixS f = G) := hG
      clear hG
      go_upto_region 9 with fail
      refine wp_region_lit ?_
      refine wpList_load_mid rfl 159 (.tmp 1) rfl w.heap.size 0 rfl (bv 16 G) _ HR'.out.range Tryz.underlying159 rfl (by rw [bv_length]; exact Tryz.sizeSt) ?_
      refine wpList_store_mid rfl 159 (.tmp 2) (.tmp 37) rfl (w.heap.size + 1) 0 (bA 16 G) rfl rfl (by rw [bA_size]; exact HZ.out.there) (by rw [bA_size]; exact Tryz.sizeSt) (bA_one _ _) ?_
      rw [bA_toList]
      have L : Hid ((loadVar 159 ⟨w.heap.size + 1, 0, none⟩).run Tryz.prog (wr.setCells (w.heap.size + 1) 0 (bv 16 G)) = .ok (.agg (bA 16 G)) (wr.setCells (w.heap.size + 1) 0 (bv 16 G))) := (HZ.out.stored _).load Tryz.underlying159 rfl Tryz.sizeSt
      have B : Hid (Below w.heap.size w (wr.setCells (w.heap.size + 1) 0 (bv 16 G))) := below_setCells (by omega) _ _ _ HB.out
      have eA : (bv 16 G).toArray = bA 16 G := rfl
      rw [eA]
      generalize wr.setCells (w.heap.size + 1) 0 (bv 16 G) = wf at *
      generalize hA : bA 16 G = AA at *
      have HA : Hid (bA 16 G = AA) := hA
      clear hA eA
      go_wp2
      rw [HG.out, HA.out]
      exact bodyPost_ret (v := .agg AA) (results_cell_one (b := w.heap.size + 1) (o := 0) Tryz.results134 _ _ _ rfl L.out) rfl ⟨rfl, B.out⟩
end Go.Proofs.YtbecnaabmlkjjabGreatDoor
namespace Go.Proofs.YtbecnaabmlkjjabGreatDoor
open Go.ChangeShapes Go.WideShapes Go.ChangeAt Go.RowKit
/-- What encrypt's steps keep: the state in block S, the result's place behind it, the cipher, all that was there. -/
def ENC (w0 : World) (C m : Nat) (K F : Nat → Nat) (w' : World) : Prop := Row8 w' w0.heap.size 159 16 F ∧ Row8 w' (w0.heap.size + 1) 159 16 (fun _ => 0) ∧ CiphAt w' C m K ∧ Below w0.heap.size w0 w'
theorem ENC.below {w0 w' w'' : World} {C m : Nat} {K F : Nat → Nat} (h : ENC w0 C m K F w') (hb : Below w'.heap.size w' w'') : ENC w0 C m K F w'' :=
  ⟨h.1.below hb, h.2.1.below hb, h.2.2.1.below hb, h.2.2.2.trans (hb.mono h.2.2.2.size)⟩
theorem ENC.drew {w0 w' : World} {C m : Nat} {K F : Nat → Nat} (h : ENC w0 C m K F w') : ENC w0 C m K F w'.drew := ⟨h.1, h.2.1, h.2.2.1, h.2.2.2.drew⟩
theorem ENC.store {w0 w' : World} {C m : Nat} {K F : Nat → Nat} (h : ENC w0 C m K F w') (hC : C < w0.heap.size) (G : Nat → Nat) : ENC w0 C m K G (w'.setCells w0.heap.size 0 (bv 16 G)) :=
  ⟨h.1.stored G, h.2.1.storedOther (by omega) _ _, fun k hk => by rw [World.cell?_setCells_out _ _ _ _ _ (by intro e; simp at e; omega)]; exact h.2.2.1 k hk, below_setCells (Nat.le_refl _) _ _ _ h.2.2.2⟩
set_option maxRecDepth 100000 in
set_option maxHeartbeats 4000000 in
theorem encrypt_any (C m : Nat) (K f : Nat → Nat) (hf : ∀ i, i < 16 → f i < 256) (hK : ∀ j, K j < 256) (hm : 1 ≤ m) (hm' : m ≤ 14) (w : World) (hC : CiphAt w C m K) :
    Calls Tryz.prog 121 #[.pointer (some ⟨C, 0, none⟩), .agg (bA 16 f)] w fun e w' => e = .returned (.agg (bA 16 (Gf.enc K m f))) ∧ Below w.heap.size w w' := by
  have HF : Hid (∀ i, i < 16 → f i < 256) := hf
  have HK : Hid (∀ j, K j < 256) := hK
  have hCl := hC.lt
  have E0 : Hid (ENC w C m K f ((w.alloc (.cells (bA 16 f) 159)).alloc (.cells z16 159))) :=
    ⟨(Row8.boxedAt rfl _ _ _).alloc _, Row8.z16At (by simp) _, hC.belowOf (((Below.refl _ _).alloc (Nat.le_refl _) _).alloc (by simp) _) hCl, ((Below.refl _ _).alloc (Nat.le_refl _) _).alloc (by simp) _⟩
  clear hf hC hK
  unfold z16 at E0
  go_enter Tryz.func121, Tryz.ntmps121
  go_upto_region 1 with fail
  generalize (w.alloc (.cells (bA 16 f) 159)).alloc (.cells #[.int .u8 0, .int .u8 0, .int .u8 0, .int .u8 0, .int .u8 0, .int .u8 0, .int .u8 0, .int .u8 0, .int .u8 0, .int .u8 0, .int .u8 0, .int .u8 0, .int .u8 0, .int .u8 0, .int .u8 0, .int .u8 0] 159) = wz at *
  have H : ENC w C m K f wz.drew := E0.out.drew
  have AD : Hid (∀ w : World, Calls Tryz.prog 133 #[.agg (bv 16 f).toArray, .agg (bv 16 (Gf.keyAt K 0)).toArray] w fun e w' => e = .returned (.agg (bA 16 (Gf.encTo K f 0))) ∧ Below w.heap.size w w') := added_any f (Gf.keyAt K 0) HF.out (fun i _ => HK.out _)
  refine wp_region_noPanic ?_
  refine wp_region_held_drew (S := fun w' => CiphAt w' C m K) (by kernel_rfl) H.2.2.1 (fun _ => ?_)
  refine wpAnyH_take (i := 1) (v := .pointer (some ⟨C, 0, none⟩)) rfl (by kernel_rfl) (by kernel_rfl) (by kernel_rfl) (fun _ _ _ h => h) (Or.inl ⟨by rfl, ?_⟩) H.2.2.1 ?_
  · intro w hSw; go_simp
  change wpAnyH _ _ _ _ _ _ _ { tmps := #[_, _, _, _, _, _, _, _, _, _, _, _, _, _, _, _, _, _, _, _, _, _, _, _, _, _, _, _, _, _, _, _, _, _, _, _, _, _, _, _, _, _, _, _, _], defers := [] } _
  refine wpAnyH_take (i := 2) (v := .pointer (some ⟨C, 0, none⟩)) rfl (by kernel_rfl) (by kernel_rfl) (by kernel_rfl) (fun _ _ _ h => h) (Or.inl ⟨by rfl, ?_⟩) H.2.2.1 ?_
  · intro w hSw; go_simp
  change wpAnyH _ _ _ _ _ _ _ { tmps := #[_, _, _, _, _, _, _, _, _, _, _, _, _, _, _, _, _, _, _, _, _, _, _, _, _, _, _, _, _, _, _, _, _, _, _, _, _, _, _, _, _, _, _, _, _], defers := [] } _
  refine wpAnyH_take (i := 3) (v := .pointer (some ⟨C, 1, none⟩)) rfl (by kernel_rfl) (by kernel_rfl) (by kernel_rfl) (fun _ _ _ h => h) (Or.inl ⟨by rfl, ?_⟩) H.2.2.1 ?_
  · intro w hSw; go_simp
  change wpAnyH _ _ _ _ _ _ _ { tmps := #[_, _, _, _, _, _, _, _, _, _, _, _, _, _, _, _, _, _, _, _, _, _, _, _, _, _, _, _, _, _, _, _, _, _, _, _, _, _, _, _, _, _, _, _, _], defers := [] } _
  refine wpAnyH_take (i := 4) (v := .pointer (some ⟨C, 1, none⟩)) rfl (by kernel_rfl) (by kernel_rfl) (by kernel_rfl) (fun _ _ _ h => h) (Or.inl ⟨by rfl, ?_⟩) H.2.2.1 ?_
  · intro w hSw; go_simp
  change wpAnyH _ _ _ _ _ _ _ { tmps := #[_, _, _, _, _, _, _, _, _, _, _, _, _, _, _, _, _, _, _, _, _, _, _, _, _, _, _, _, _, _, _, _, _, _, _, _, _, _, _, _, _, _, _, _, _], defers := [] } _
  refine wpAnyH_take (i := 5) (v := .agg (bv 16 (Gf.keyAt K 0)).toArray) rfl (by kernel_rfl) (by kernel_rfl) (by kernel_rfl) (fun _ _ _ h => h) (yieldsIf_load_mid (by rfl) 159 (.tmp 10) rfl C 1 rfl (bv 16 (Gf.keyAt K 0)) _ (fun w h => CiphAt.key h 0 (by omega)) Tryz.underlying159 rfl (by rw [bv_length]; exact Tryz.sizeSt)) H.2.2.1 ?_
  change wpAnyH _ _ _ _ _ _ _ { tmps := #[_, _, _, _, _, _, _, _, _, _, _, _, _, _, _, _, _, _, _, _, _, _, _, _, _, _, _, _, _, _, _, _, _, _, _, _, _, _, _, _, _, _, _, _, _], defers := [] } _
  refine wpAnyH_ready (rs := [0]) (by kernel_rfl) (by simp) ?_
  refine AllReadyH.cons rfl (fun KK hK => ?_) AllReadyH.nil
  rw [if_pos (by rfl)]
  refine wp_load_mid 159 (.tmp 3) rfl w.heap.size 0 rfl (bv 16 f) _ H.1.range Tryz.underlying159 rfl (by rw [bv_length]; exact Tryz.sizeSt) ?_
  refine hK.out _ _ H.2.2.1 (fun _ => ?_)
  clear hK KK
  change wpAnyH _ _ _ _ _ _ _ { tmps := #[_, _, _, _, _, _, _, _, _, _, _, _, _, _, _, _, _, _, _, _, _, _, _, _, _, _, _, _, _, _, _, _, _, _, _, _, _, _, _, _, _, _, _, _, _], defers := [] } _
  refine wpAnyH_ready (rs := [6]) (by kernel_rfl) (by simp) ?_
  refine AllReadyH.cons rfl (fun KK hK => ?_) AllReadyH.nil
  go_simp
  refine (AD.out _).mono ?_
  rintro e w1 ⟨rfl, hb⟩
  replace H := ENC.below H hb
  refine hK.out _ _ H.2.2.1 (fun _ => ?_)
  clear hK KK hb
  change wpAnyH _ _ _ _ _ _ _ { tmps := #[_, _, _, _, _, _, _, _, _, _, _, _, _, _, _, _, _, _, _, _, _, _, _, _, _, _, _, _, _, _, _, _, _, _, _, _, _, _, _, _, _, _, _, _, _], defers := [] } _
  refine wpAnyH_ready (rs := [7]) (by kernel_rfl) (by simp) ?_
  refine AllReadyH.cons rfl (fun KK hK => ?_) AllReadyH.nil
  rw [if_pos (by rfl)]
  refine wp_store_mid 159 (.tmp 3) (.tmp 12) rfl w.heap.size 0 (bA 16 (Gf.encTo K f 0)) rfl rfl (by rw [bA_size]; exact H.1.there) (by rw [bA_size]; exact Tryz.sizeSt) (bA_one _ _) ?_
  rw [bA_toList]
  replace H := ENC.store H hCl (Gf.encTo K f 0)
  refine hK.out _ _ H.2.2.1 (fun _ => ?_)
  clear hK KK
  refine wpAnyH_done (by kernel_rfl) ?_ _
  refine NoPanic.normal ?_
  change Exit.then _ _ Exit.normal { tmps := #[_, _, _, _, _, _, _, _, _, _, _, _, _, _, _, _, _, _, _, _, _, _, _, _, _, _, _, _, _, _, _, _, _, _, _, _, _, _, _, _, _, _, _, _, _], defers := [] } _
  have H2 : Hid (ENC w C m K (Gf.encTo K f 0) (w1.setCells w.heap.size 0 (bv 16 (Gf.encTo K f 0)))) := H
  clear H E0 AD
  generalize w1.setCells w.heap.size 0 (bv 16 (Gf.encTo K f 0)) = wy at *
  have eA1 : ∀ g, (bv 16 g).toArray = bA 16 g := fun _ => rfl
  rw [eA1, eA1]
  clear eA1
  generalize hE0 : bA 16 (Gf.encTo K f 0) = EE0 at *
  generalize bA 16 (Gf.keyAt K 0) = KA0 at *
  generalize bA 16 f = FA at *
  go_wp2_with fail
  go_loopw [5] (fun i wr => ∃ k : Nat, 1 ≤ k ∧ k ≤ m ∧ i = .int .i64 k ∧ ENC w C m K (Gf.encTo K f (k - 1)) wr) (fun i _ => m - (intOf i).toNat)
  case atStart => exact ⟨1, Nat.le_refl _, hm, rfl, H2.out⟩
  case round =>
    clear H2
    obtain ⟨k, hk1, hk2, rfl, hE⟩ := hrel
    have HE : Hid (ENC w C m K (Gf.encTo K f (k - 1)) wr) := hE
    have cr := hE.2.2.1.rounds
    clear hE
    by_cases hlt : k < m
    · have LE : Hid (∀ j, j < 16 → Gf.encTo K f (k - 1) j < 256) := Gf.encTo_lt HK.out HF.out _
      have x0 : (k : Int) < (m : Int) := by omega
      have x1 : (k : Int) < 15 := by omega
      have x2 : (0 : Int) ≤ (k : Int) := by omega
      have EK : Hid (Gf.encTo K f k = Gf.addK (Gf.mixS (Gf.subTurn (Gf.encTo K f (k - 1)))) (Gf.keyAt K k)) := by
        obtain ⟨q, rfl⟩ : ∃ q, k = q + 1 := ⟨k - 1, by omega⟩
        rfl
      have ST : Hid (∀ w : World, CiphAt w C m K → Calls Tryz.prog 135 #[.pointer (some ⟨C, 0, none⟩), .agg (bv 16 (Gf.encTo K f (k - 1))).toArray] w fun e w' => e = .returned (.agg (bA 16 (Gf.subTurn (Gf.encTo K f (k - 1))))) ∧ Below w.heap.size w w') := fun w h => subTurn_any C m K _ LE.out w h
      have LS : ∀ j, j < 16 → Gf.subTurn (Gf.encTo K f (k - 1)) j < 256 := fun j _ => Gf.subTurn_lt LE.out j
      have MX : Hid (∀ w : World, Calls Tryz.prog 134 #[.agg (bA 16 (Gf.subTurn (Gf.encTo K f (k - 1))))] w fun e w' => e = .returned (.agg (bA 16 (Gf.mixS (Gf.subTurn (Gf.encTo K f (k - 1)))))) ∧ Below w.heap.size w w') := mixed_any _ LS
      have AD : Hid (∀ w : World, Calls Tryz.prog 133 #[.agg (bA 16 (Gf.mixS (Gf.subTurn (Gf.encTo K f (k - 1))))), .agg (bv 16 (Gf.keyAt K k)).toArray] w fun e w' => e = .returned (.agg (bA 16 (Gf.encTo K f k))) ∧ Below w.heap.size w w') := by
        rw [EK.out]; exact added_any _ (Gf.keyAt K k) (Gf.mixS_lt LS) (fun i _ => HK.out _)
      clear LS
      go_upto_region 5 with fail
      have H : ENC w C m K (Gf.encTo K f (k - 1)) wr.drew := HE.out.drew
      clear HE cr
      generalize bA 16 (Gf.subTurn (Gf.encTo K f (k - 1))) = A1 at *
      generalize bA 16 (Gf.mixS (Gf.subTurn (Gf.encTo K f (k - 1)))) = A2 at *
      refine wp_region_noPanic ?_
      refine wp_region_held_drew (S := fun w' => CiphAt w' C m K) (by kernel_rfl) H.2.2.1 (fun _ => ?_)
      refine wpAnyH_take (i := 0) (v := .pointer (some ⟨C, 0, none⟩)) rfl (by kernel_rfl) (by kernel_rfl) (by kernel_rfl) (fun _ _ _ h => h) (Or.inl ⟨by rfl, ?_⟩) H.2.2.1 ?_
      · intro w hSw; go_simp
      change wpAnyH _ _ _ _ _ _ _ { tmps := #[_, _, _, _, _, _, _, _, _, _, _, _, _, _, _, _, _, _, _, _, _, _, _, _, _, _, _, _, _, _, _, _, _, _, _, _, _, _, _, _, _, _, _, _, _], defers := [] } _
      refine wpAnyH_take (i := 4) (v := .pointer (some ⟨C, 0, none⟩)) rfl (by kernel_rfl) (by kernel_rfl) (by kernel_rfl) (fun _ _ _ h => h) (Or.inl ⟨by rfl, ?_⟩) H.2.2.1 ?_
      · intro w hSw; go_simp
      change wpAnyH _ _ _ _ _ _ _ { tmps := #[_, _, _, _, _, _, _, _, _, _, _, _, _, _, _, _, _, _, _, _, _, _, _, _, _, _, _, _, _, _, _, _, _, _, _, _, _, _, _, _, _, _, _, _, _], defers := [] } _
      refine wpAnyH_take (i := 5) (v := .int .i64 (k : Int)) rfl (by kernel_rfl) (by kernel_rfl) (by kernel_rfl) (fun _ _ _ h => h) (Or.inl ⟨by rfl, ?_⟩) H.2.2.1 ?_
      · intro w hSw; go_simp
      change wpAnyH _ _ _ _ _ _ _ { tmps := #[_, _, _, _, _, _, _, _, _, _, _, _, _, _, _, _, _, _, _, _, _, _, _, _, _, _, _, _, _, _, _, _, _, _, _, _, _, _, _, _, _, _, _, _, _], defers := [] } _
      refine wpAnyH_take (i := 6) (v := .pointer (some ⟨C, 0, none⟩)) rfl (by kernel_rfl) (by kernel_rfl) (by kernel_rfl) (fun _ _ _ h => h) (Or.inl ⟨by rfl, ?_⟩) H.2.2.1 ?_
      · intro w hSw; go_simp
      change wpAnyH _ _ _ _ _ _ _ { tmps := #[_, _, _, _, _, _, _, _, _, _, _, _, _, _, _, _, _, _, _, _, _, _, _, _, _, _, _, _, _, _, _, _, _, _, _, _, _, _, _, _, _, _, _, _, _], defers := [] } _
      refine wpAnyH_take (i := 7) (v := .pointer (some ⟨C, 1, none⟩)) rfl (by kernel_rfl) (by kernel_rfl) (by kernel_rfl) (fun _ _ _ h => h) (Or.inl ⟨by rfl, ?_⟩) H.2.2.1 ?_
      · intro w hSw; go_simp
      change wpAnyH _ _ _ _ _ _ _ { tmps := #[_, _, _, _, _, _, _, _, _, _, _, _, _, _, _, _, _, _, _, _, _, _, _, _, _, _, _, _, _, _, _, _, _, _, _, _, _, _, _, _, _, _, _, _, _], defers := [] } _
      refine wpAnyH_take (i := 8) (v := .pointer (some ⟨C, 1 + k * 16, none⟩)) rfl (by kernel_rfl) (by kernel_rfl) (by kernel_rfl) (fun _ _ _ h => h) (Or.inl ⟨by rfl, ?_⟩) H.2.2.1 ?_
      · intro w hSw; go_simp
      change wpAnyH _ _ _ _ _ _ _ { tmps := #[_, _, _, _, _, _, _, _, _, _, _, _, _, _, _, _, _, _, _, _, _, _, _, _, _, _, _, _, _, _, _, _, _, _, _, _, _, _, _, _, _, _, _, _, _], defers := [] } _
      refine wpAnyH_take (i := 9) (v := .agg (bv 16 (Gf.keyAt K k)).toArray) rfl (by kernel_rfl) (by kernel_rfl) (by kernel_rfl) (fun _ _ _ h => h) (yieldsIf_load_mid (by rfl) 159 (.tmp 29) rfl C (1 + k * 16) rfl (bv 16 (Gf.keyAt K k)) _ (fun w h => CiphAt.key h k (by omega)) Tryz.underlying159 rfl (by rw [bv_length]; exact Tryz.sizeSt)) H.2.2.1 ?_
      change wpAnyH _ _ _ _ _ _ _ { tmps := #[_, _, _, _, _, _, _, _, _, _, _, _, _, _, _, _, _, _, _, _, _, _, _, _, _, _, _, _, _, _, _, _, _, _, _, _, _, _, _, _, _, _, _, _, _], defers := [] } _
      refine wpAnyH_ready (rs := [1]) (by kernel_rfl) (by simp) ?_
      refine AllReadyH.cons rfl (fun KK hK => ?_) AllReadyH.nil
      rw [if_pos (by rfl)]
      refine wp_load_mid 159 (.tmp 3) rfl w.heap.size 0 rfl (bv 16 (Gf.encTo K f (k - 1))) _ H.1.range Tryz.underlying159 rfl (by rw [bv_length]; exact Tryz.sizeSt) ?_
      refine hK.out _ _ H.2.2.1 (fun _ => ?_)
      clear hK KK
      change wpAnyH _ _ _ _ _ _ _ { tmps := #[_, _, _, _, _, _, _, _, _, _, _, _, _, _, _, _, _, _, _, _, _, _, _, _, _, _, _, _, _, _, _, _, _, _, _, _, _, _, _, _, _, _, _, _, _], defers := [] } _
      refine wpAnyH_ready (rs := [2]) (by kernel_rfl) (by simp) ?_
      refine AllReadyH.cons rfl (fun KK hK => ?_) AllReadyH.nil
      go_simp
      refine (ST.out _ H.2.2.1).mono ?_
      rintro e w1 ⟨rfl, hb⟩
      replace H := ENC.below H hb
      refine hK.out _ _ H.2.2.1 (fun _ => ?_)
      clear hK KK hb
      change wpAnyH _ _ _ _ _ _ _ { tmps := #[_, _, _, _, _, _, _, _, _, _, _, _, _, _, _, _, _, _, _, _, _, _, _, _, _, _, _, _, _, _, _, _, _, _, _, _, _, _, _, _, _, _, _, _, _], defers := [] } _
      refine wpAnyH_ready (rs := [3]) (by kernel_rfl) (by simp) ?_
      refine AllReadyH.cons rfl (fun KK hK => ?_) AllReadyH.nil
      go_simp
      refine (MX.out _).mono ?_
      rintro e w1 ⟨rfl, hb⟩
      replace H := ENC.below H hb
      refine hK.out _ _ H.2.2.1 (fun _ => ?_)
      clear hK KK hb
      change wpAnyH _ _ _ _ _ _ _ { tmps := #[_, _, _, _, _, _, _, _, _, _, _, _, _, _, _, _, _, _, _, _, _, _, _, _, _, _, _, _, _, _, _, _, _, _, _, _, _, _, _, _, _, _, _, _, _], defers := [] } _
      refine wpAnyH_ready (rs := [10]) (by kernel_rfl) (by simp) ?_
      refine AllReadyH.cons rfl (fun KK hK => ?_) AllReadyH.nil
      go_simp
      refine (AD.out _).mono ?_
      rintro e w1 ⟨rfl, hb⟩
      replace H := ENC.below H hb
      refine hK.out _ _ H.2.2.1 (fun _ => ?_)
      clear hK KK hb
      change wpAnyH _ _ _ _ _ _ _ { tmps := #[_, _, _, _, _, _, _, _, _, _, _, _, _, _, _, _, _, _, _, _, _, _, _, _, _, _, _, _, _, _, _, _, _, _, _, _, _, _, _, _, _, _, _, _, _], defers := [] } _
      refine wpAnyH_ready (rs := [11]) (by kernel_rfl) (by simp) ?_
      refine AllReadyH.cons rfl (fun KK hK => ?_) AllReadyH.nil
      rw [if_pos (by rfl)]
      refine wp_store_mid 159 (.tmp 3) (.tmp 31) rfl w.heap.size 0 (bA 16 (Gf.encTo K f k)) rfl rfl (by rw [bA_size]; exact H.1.there) (by rw [bA_size]; exact Tryz.sizeSt) (bA_one _ _) ?_
      rw [bA_toList]
      replace H := ENC.store H hCl (Gf.encTo K f k)
      refine hK.out _ _ H.2.2.1 (fun _ => ?_)
      clear hK KK
      refine wpAnyH_done (by kernel_rfl) ?_ _
      refine NoPanic.normal ?_
      change Exit.inBlock _ _ Exit.normal { tmps := #[_, _, _, _, _, _, _, _, _, _, _, _, _, _, _, _, _, _, _, _, _, _, _, _, _, _, _, _, _, _, _, _, _, _, _, _, _, _, _, _, _, _, _, _, _], defers := [] } _
      have H2 : Hid (ENC w C m K (Gf.encTo K f k) (w1.setCells w.heap.size 0 (bv 16 (Gf.encTo K f k)))) := H
      clear H ST MX AD EK LE
      generalize w1.setCells w.heap.size 0 (bv 16 (Gf.encTo K f k)) = wy at *
      generalize (bv 16 (Gf.encTo K f (k - 1))).toArray = Y1 at *
      generalize (bv 16 (Gf.keyAt K k)).toArray = Y2 at *
      generalize bA 16 (Gf.encTo K f k) = Y3 at *
      go_wp2
      go_roundw
      case rel => exact ⟨k + 1, by omega, by omega, by go_num, H2.out⟩
      case measure => simp [intOf]; omega
    · obtain rfl : k = m := by omega
      have hkk : ¬ (k : Int) < (k : Int) := by omega
      have LE : Hid (∀ j, j < 16 → Gf.encTo K f (k - 1) j < 256) := Gf.encTo_lt HK.out HF.out _
      have x1 : (k : Int) < 15 := by omega
      have x2 : (0 : Int) ≤ (k : Int) := by omega
      have ST : Hid (∀ w : World, CiphAt w C k K → Calls Tryz.prog 135 #[.pointer (some ⟨C, 0, none⟩), .agg (bv 16 (Gf.encTo K f (k - 1))).toArray] w fun e w' => e = .returned (.agg (bA 16 (Gf.subTurn (Gf.encTo K f (k - 1))))) ∧ Below w.heap.size w w') := fun w h => subTurn_any C k K _ LE.out w h
      have AD : Hid (∀ w : World, Calls Tryz.prog 133 #[.agg (bA 16 (Gf.subTurn (Gf.encTo K f (k - 1)))), .agg (bv 16 (Gf.keyAt K k)).toArray] w fun e w' => e = .returned (.agg (bA 16 (Gf.enc K k f))) ∧ Below w.heap.size w w') := added_any _ (Gf.keyAt K k) (fun j _ => Gf.subTurn_lt LE.out j) (fun i _ => HK.out _)
      go_upto_region 6 with fail
      have H : ENC w C k K (Gf.encTo K f (k - 1)) wr.drew := HE.out.drew
      clear HE cr
      generalize bA 16 (Gf.subTurn (Gf.encTo K f (k - 1))) = A1 at *
      refine wp_region_noPanic ?_
      refine wp_region_held_drew (S := fun w' => CiphAt w' C k K) (by kernel_rfl) H.2.2.1 (fun _ => ?_)
      refine wpAnyH_take (i := 0) (v := .pointer (some ⟨C, 0, none⟩)) rfl (by kernel_rfl) (by kernel_rfl) (by kernel_rfl) (fun _ _ _ h => h) (Or.inl ⟨by rfl, ?_⟩) H.2.2.1 ?_
      · intro w hSw; go_simp
      change wpAnyH _ _ _ _ _ _ _ { tmps := #[_, _, _, _, _, _, _, _, _, _, _, _, _, _, _, _, _, _, _, _, _, _, _, _, _, _, _, _, _, _, _, _, _, _, _, _, _, _, _, _, _, _, _, _, _], defers := [] } _
      refine wpAnyH_take (i := 3) (v := .pointer (some ⟨C, 0, none⟩)) rfl (by kernel_rfl) (by kernel_rfl) (by kernel_rfl) (fun _ _ _ h => h) (Or.inl ⟨by rfl, ?_⟩) H.2.2.1 ?_
      · intro w hSw; go_simp
      change wpAnyH _ _ _ _ _ _ _ { tmps := #[_, _, _, _, _, _, _, _, _, _, _, _, _, _, _, _, _, _, _, _, _, _, _, _, _, _, _, _, _, _, _, _, _, _, _, _, _, _, _, _, _, _, _, _, _], defers := [] } _
      refine wpAnyH_take (i := 4) (v := .pointer (some ⟨C, 0, none⟩)) rfl (by kernel_rfl) (by kernel_rfl) (by kernel_rfl) (fun _ _ _ h => h) (Or.inl ⟨by rfl, ?_⟩) H.2.2.1 ?_
      · intro w hSw; go_simp
      change wpAnyH _ _ _ _ _ _ _ { tmps := #[_, _, _, _, _, _, _, _, _, _, _, _, _, _, _, _, _, _, _, _, _, _, _, _, _, _, _, _, _, _, _, _, _, _, _, _, _, _, _, _, _, _, _, _, _], defers := [] } _
      refine wpAnyH_take (i := 5) (v := .pointer (some ⟨C, 0, none⟩)) rfl (by kernel_rfl) (by kernel_rfl) (by kernel_rfl) (fun _ _ _ h => h) (Or.inl ⟨by rfl, ?_⟩) H.2.2.1 ?_
      · intro w hSw; go_simp
      change wpAnyH _ _ _ _ _ _ _ { tmps := #[_, _, _, _, _, _, _, _, _, _, _, _, _, _, _, _, _, _, _, _, _, _, _, _, _, _, _, _, _, _, _, _, _, _, _, _, _, _, _, _, _, _, _, _, _], defers := [] } _
      refine wpAnyH_take (i := 6) (v := .pointer (some ⟨C, 0, none⟩)) rfl (by kernel_rfl) (by kernel_rfl) (by kernel_rfl) (fun _ _ _ h => h) (Or.inl ⟨by rfl, ?_⟩) H.2.2.1 ?_
      · intro w hSw; go_simp
      change wpAnyH _ _ _ _ _ _ _ { tmps := #[_, _, _, _, _, _, _, _, _, _, _, _, _, _, _, _, _, _, _, _, _, _, _, _, _, _, _, _, _, _, _, _, _, _, _, _, _, _, _, _, _, _, _, _, _], defers := [] } _
      refine wpAnyH_take (i := 7) (v := .int .i64 (k : Int)) rfl (by kernel_rfl) (by kernel_rfl) (by kernel_rfl) (fun _ _ _ h => h) (Or.inl ⟨by rfl, ?_⟩) H.2.2.1 ?_
      · intro w hSw; have hfact := CiphAt.rounds hSw; go_simp
      change wpAnyH _ _ _ _ _ _ _ { tmps := #[_, _, _, _, _, _, _, _, _, _, _, _, _, _, _, _, _, _, _, _, _, _, _, _, _, _, _, _, _, _, _, _, _, _, _, _, _, _, _, _, _, _, _, _, _], defers := [] } _
      refine wpAnyH_take (i := 8) (v := .pointer (some ⟨C, 0, none⟩)) rfl (by kernel_rfl) (by kernel_rfl) (by kernel_rfl) (fun _ _ _ h => h) (Or.inl ⟨by rfl, ?_⟩) H.2.2.1 ?_
      · intro w hSw; go_simp
      change wpAnyH _ _ _ _ _ _ _ { tmps := #[_, _, _, _, _, _, _, _, _, _, _, _, _, _, _, _, _, _, _, _, _, _, _, _, _, _, _, _, _, _, _, _, _, _, _, _, _, _, _, _, _, _, _, _, _], defers := [] } _
      refine wpAnyH_take (i := 9) (v := .pointer (some ⟨C, 1, none⟩)) rfl (by kernel_rfl) (by kernel_rfl) (by kernel_rfl) (fun _ _ _ h => h) (Or.inl ⟨by rfl, ?_⟩) H.2.2.1 ?_
      · intro w hSw; go_simp
      change wpAnyH _ _ _ _ _ _ _ { tmps := #[_, _, _, _, _, _, _, _, _, _, _, _, _, _, _, _, _, _, _, _, _, _, _, _, _, _, _, _, _, _, _, _, _, _, _, _, _, _, _, _, _, _, _, _, _], defers := [] } _
      refine wpAnyH_take (i := 10) (v := .pointer (some ⟨C, 1 + k * 16, none⟩)) rfl (by kernel_rfl) (by kernel_rfl) (by kernel_rfl) (fun _ _ _ h => h) (Or.inl ⟨by rfl, ?_⟩) H.2.2.1 ?_
      · intro w hSw; go_simp
      change wpAnyH _ _ _ _ _ _ _ { tmps := #[_, _, _, _, _, _, _, _, _, _, _, _, _, _, _, _, _, _, _, _, _, _, _, _, _, _, _, _, _, _, _, _, _, _, _, _, _, _, _, _, _, _, _, _, _], defers := [] } _
      refine wpAnyH_take (i := 11) (v := .agg (bv 16 (Gf.keyAt K k)).toArray) rfl (by kernel_rfl) (by kernel_rfl) (by kernel_rfl) (fun _ _ _ h => h) (yieldsIf_load_mid (by rfl) 159 (.tmp 42) rfl C (1 + k * 16) rfl (bv 16 (Gf.keyAt K k)) _ (fun w h => CiphAt.key h k (by omega)) Tryz.underlying159 rfl (by rw [bv_length]; exact Tryz.sizeSt)) H.2.2.1 ?_
      change wpAnyH _ _ _ _ _ _ _ { tmps := #[_, _, _, _, _, _, _, _, _, _, _, _, _, _, _, _, _, _, _, _, _, _, _, _, _, _, _, _, _, _, _, _, _, _, _, _, _, _, _, _, _, _, _, _, _], defers := [] } _
      refine wpAnyH_ready (rs := [1]) (by kernel_rfl) (by simp) ?_
      refine AllReadyH.cons rfl (fun KK hK => ?_) AllReadyH.nil
      rw [if_pos (by rfl)]
      refine wp_load_mid 159 (.tmp 3) rfl w.heap.size 0 rfl (bv 16 (Gf.encTo K f (k - 1))) _ H.1.range Tryz.underlying159 rfl (by rw [bv_length]; exact Tryz.sizeSt) ?_
      refine hK.out _ _ H.2.2.1 (fun _ => ?_)
      clear hK KK
      change wpAnyH _ _ _ _ _ _ _ { tmps := #[_, _, _, _, _, _, _, _, _, _, _, _, _, _, _, _, _, _, _, _, _, _, _, _, _, _, _, _, _, _, _, _, _, _, _, _, _, _, _, _, _, _, _, _, _], defers := [] } _
      refine wpAnyH_ready (rs := [2]) (by kernel_rfl) (by simp) ?_
      refine AllReadyH.cons rfl (fun KK hK => ?_) AllReadyH.nil
      go_simp
      refine (ST.out _ H.2.2.1).mono ?_
      rintro e w1 ⟨rfl, hb⟩
      replace H := ENC.below H hb
      refine hK.out _ _ H.2.2.1 (fun _ => ?_)
      clear hK KK hb
      change wpAnyH _ _ _ _ _ _ _ { tmps := #[_, _, _, _, _, _, _, _, _, _, _, _, _, _, _, _, _, _, _, _, _, _, _, _, _, _, _, _, _, _, _, _, _, _, _, _, _, _, _, _, _, _, _, _, _], defers := [] } _
      refine wpAnyH_ready (rs := [12]) (by kernel_rfl) (by simp) ?_
      refine AllReadyH.cons rfl (fun KK hK => ?_) AllReadyH.nil
      go_simp
      refine (AD.out _).mono ?_
      rintro e w1 ⟨rfl, hb⟩
      replace H := ENC.below H hb
      refine hK.out _ _ H.2.2.1 (fun _ => ?_)
      clear hK KK hb
      change wpAnyH _ _ _ _ _ _ _ { tmps := #[_, _, _, _, _, _, _, _, _, _, _, _, _, _, _, _, _, _, _, _, _, _, _, _, _, _, _, _, _, _, _, _, _, _, _, _, _, _, _, _, _, _, _, _, _], defers := [] } _
      refine wpAnyH_ready (rs := [13]) (by kernel_rfl) (by simp) ?_
      refine AllReadyH.cons rfl (fun KK hK => ?_) AllReadyH.nil
      rw [if_pos (by rfl)]
      refine wp_store_mid 159 (.tmp 4) (.tmp 44) rfl (w.heap.size + 1) 0 (bA 16 (Gf.enc K k f)) rfl rfl (by rw [bA_size]; exact H.2.1.there) (by rw [bA_size]; exact Tryz.sizeSt) (bA_one _ _) ?_
      rw [bA_toList]
      have H3 : Hid ((loadVar 159 ⟨w.heap.size + 1, 0, none⟩).run Tryz.prog (w1.setCells (w.heap.size + 1) 0 (bv 16 (Gf.enc K k f))) = .ok (.agg (bA 16 (Gf.enc K k f))) (w1.setCells (w.heap.size + 1) 0 (bv 16 (Gf.enc K k f)))) := (H.2.1.stored _).load Tryz.underlying159 rfl Tryz.sizeSt
      have H4 : Hid (Below w.heap.size w (w1.setCells (w.heap.size + 1) 0 (bv 16 (Gf.enc K k f)))) := below_setCells (by omega) _ _ _ H.2.2.2
      refine hK.out _ _ (fun q hq => by rw [World.cell?_setCells_out _ _ _ _ _ (by intro e; simp at e; omega)]; exact H.2.2.1 q hq) (fun _ => ?_)
      clear hK KK H ST AD LE
      refine wpAnyH_done (by kernel_rfl) ?_ _
      refine NoPanic.normal ?_
      change Exit.then _ _ Exit.normal { tmps := #[_, _, _, _, _, _, _, _, _, _, _, _, _, _, _, _, _, _, _, _, _, _, _, _, _, _, _, _, _, _, _, _, _, _, _, _, _, _, _, _, _, _, _, _, _], defers := [] } _
      generalize w1.setCells (w.heap.size + 1) 0 (bv 16 (Gf.enc K k f)) = wf at *
      generalize (bv 16 (Gf.encTo K f (k - 1))).toArray = Y1 at *
      generalize (bv 16 (Gf.keyAt K k)).toArray = Y2 at *
      generalize hA : bA 16 (Gf.enc K k f) = AA at *
      have HA : Hid (bA 16 (Gf.enc K k f) = AA) := hA
      clear hA
      go_wp2
      rw [HA.out]
      exact bodyPost_ret (v := .agg AA) (results_cell_one (b := w.heap.size + 1) (o := 0) Tryz.results121 _ _ _ rfl H3.out) rfl ⟨rfl, H4.out⟩
end Go.Proofs.YtbecnaabmlkjjabGreatDoor
namespace Go.Proofs.YtbecnaabmlkjjabGreatDoor
open Go.ChangeShapes Go.WideShapes Go.ChangeAt Go.RowKit
theorem keyOK_yes (s : ByteArray) (h : s.size = 16 ∨ s.size = 32) (w : World) : Calls Tryz.prog 128 #[.string s] w fun e w' => e = .returned (.bool true) ∧ w' = w := by
  rcases h with h | h
  · go_enter Tryz.func128, Tryz.ntmps128
    go_wp2
    go_ret
    exact ⟨rfl, rfl⟩
  · go_enter Tryz.func128, Tryz.ntmps128
    go_wp2
    go_ret
    exact ⟨rfl, rfl⟩
end Go.Proofs.YtbecnaabmlkjjabGreatDoor
namespace Go.Proofs.YtbecnaabmlkjjabGreatDoor
open Go.ChangeShapes Go.WideShapes Go.ChangeAt Go.RowKit
end Go.Proofs.YtbecnaabmlkjjabGreatDoor
