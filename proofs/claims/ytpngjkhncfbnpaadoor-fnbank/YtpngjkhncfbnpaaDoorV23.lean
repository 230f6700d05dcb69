/-
  Texts of the proof, joined: BankOk3.
-/
import Derived.Test.YtpngjkhncfbnpaaDoorV21
import Derived.Test.YtpngjkhncfbnpaaDoorV22
import Derived.Test.YtpngjkhncfbnpaaDoorV20
namespace Go.Proofs.YtpngjkhncfbnpaaDoor
open Go.ChangeShapes Go.WideShapes Go.ChangeAt Go.RowKit
set_option linter.unusedVariables false
set_option maxRecDepth 100000 in
set_option maxHeartbeats 4000000 in
theorem sessionsOK_any (a : Option Addr) (n c : Nat) (S : Nat → Se) (w : World) (h : Els w 4 a n (seF S)) (hT : TabW w) :
    Calls Tryd.prog 56 #[.slice a n c] w fun e w' => e = .returned (.bool (okB (SesOk n S))) ∧ Below w.heap.size w w' := by
  have F : Hid (¬ SesOk n S → okB (SesOk n S) = false) := okB_no
  have T : Hid (SesOk n S → okB (SesOk n S) = true) := okB_yes
  generalize okB (SesOk n S) = z at *
  have H : Hid (Els w 4 a n (seF S)) := h
  have TB : Hid (TabW w) := hT
  clear h hT
  by_cases h0 : n ≤ 6
  · have h0' : ¬ (6 : Int) < (n : Int) := by omega
    go_enter Tryd.func56, Tryd.ntmps56
    go_wp2
    go_loopw [10] (fun i wr => ∃ k : Nat, k ≤ n ∧ i = .int .i64 k ∧ (∀ i, i < k → (S i).Ok ∧ (0 < i → (S (i - 1)).id < (S i).id)) ∧ Below w.heap.size w wr) (fun i _ => n - (intOf i).toNat)
    case atStart => exact ⟨0, by omega, rfl, fun i hi => absurd hi (by omega), Below.refl _ _⟩
    case round =>
      obtain ⟨k, hk, rfl, hI, hb⟩ := hrel
      have HB : Hid (Below w.heap.size w wr) := hb
      have HI : Hid (∀ i, i < k → (S i).Ok ∧ (0 < i → (S (i - 1)).id < (S i).id)) := hI
      clear hI
      by_cases hlt : k < n
      · have hlt' : (k : Int) < (n : Int) := by omega
        obtain ⟨b, off, rfl, hc⟩ := (H.out.below hb).opened (by omega)
        obtain ⟨c0, c1, c2, c3⟩ := Els.seC hc k hlt
        have HC : Hid (∀ i, i < n → ∀ j, j < 4 → wr.cell? ⟨b, off + i * 4 + j, none⟩ = some (seF S i j)) := hc
        have TU : Hid (∀ w : World, Calls Tryd.prog 86 #[.int .i64 (S k).id, .int .i64 (S k).sq] w fun e w' => e = .returned (.bool (okB (TurnOk (S k).id (S k).sq))) ∧ w = w') := turnOK_any _ _
        have BI : Hid (∀ w : World, 0 < k → Calls Tryd.prog 90 #[.agg #[.int .i64 (S (k - 1)).id, .int .i64 (S (k - 1)).sq, .int .i64 (S (k - 1)).cd, .int .i64 (S (k - 1)).ma], .int .i64 (S k).id] w fun e w' => e = .returned (.int .i64 (cmpI (S (k - 1)).id (S k).id)) ∧ Below w.heap.size w w') := fun w _ => byId_any _ _ _ _ _ w
        have WI : Hid (∀ w : World, TabW w → 0 ≤ (S k).cd ∧ (S k).cd ≤ 19 → ∃ W : ByteArray, (W.toList.isEmpty = false ∧ ¬ W.toList = []) ∧ Calls Tryd.prog 94 #[.int .i64 (S k).cd] w fun e w' => e = .returned (.string W) ∧ w = w') := fun w ht hq => by
          obtain ⟨C, hC⟩ := Int.eq_ofNat_of_zero_le hq.1
          have hl : C < 20 := by omega
          refine ⟨wd C, ?_, by rw [hC]; exact word_in C hl w ht⟩
          have hn : ¬ (wd C).toList = [] := fun e => wd_ne C hl (by rw [ByteArray.toList_eq] at e; have := congrArg List.length e; simpa using this)
          exact ⟨by cases hl : (wd C).toList with | nil => exact absurd hl hn | cons _ _ => rfl, hn⟩
        have WO : Hid (∀ w : World, ¬ (0 ≤ (S k).cd ∧ (S k).cd ≤ 19) → Calls Tryd.prog 94 #[.int .i64 (S k).cd] w fun e w' => e = .returned (.string ⟨#[]⟩) ∧ w = w') := fun w hq => word_out _ (by omega) w
        have HQ : Hid (TurnOk (S k).id (S k).sq ∨ ¬ TurnOk (S k).id (S k).sq) := Classical.em _
        have TL : Hid (TabW (wr.alloc (.cells #[.int .i64 (S k).id, .int .i64 (S k).sq, .int .i64 (S k).cd, .int .i64 (S k).ma] 100))) := TB.out.below (HB.out.alloc HB.out.size _)
        have B1 : Hid (Below w.heap.size w (wr.alloc (.cells #[.int .i64 (S k).id, .int .i64 (S k).sq, .int .i64 (S k).cd, .int .i64 (S k).ma] 100))) := HB.out.alloc HB.out.size _
        have hb : Below wr.heap.size wr (wr.alloc (.cells #[.int .i64 (S k).id, .int .i64 (S k).sq, .int .i64 (S k).cd, .int .i64 (S k).ma] 100)) := (Below.refl _ _).alloc (Nat.le_refl _) _
        have X : Hid (Box4 (wr.alloc (.cells #[.int .i64 (S k).id, .int .i64 (S k).sq, .int .i64 (S k).cd, .int .i64 (S k).ma] 100)) wr.heap.size 100 (.int .i64 (S k).id) (.int .i64 (S k).sq) (.int .i64 (S k).cd) (.int .i64 (S k).ma)) := Box4.madeAt rfl _ _ _ _ _
        have HE : Hid (∀ i, i < n → ∀ j, j < 4 → (wr.alloc (.cells #[.int .i64 (S k).id, .int .i64 (S k).sq, .int .i64 (S k).cd, .int .i64 (S k).ma] 100)).cell? ⟨b, off + i * 4 + j, none⟩ = some (seF S i j)) := fun i hi j hj => (hb.cell (p := ⟨b, off + i * 4 + j, none⟩) (strBlock (HC.out i hi j hj))).trans (HC.out i hi j hj)
        clear hc
        go_wp2_with fail
        generalize (wr.alloc (.cells #[.int .i64 (S k).id, .int .i64 (S k).sq, .int .i64 (S k).cd, .int .i64 (S k).ma] 100)) = v0 at *
        generalize wr.heap.size = rb at *
        clear hb HB HC c0 c1 c2 c3
        have t2 := X.out.c2
        have t3 := X.out.c3
        refine (TU.out _).mono ?_
        rintro e _ ⟨rfl, rfl⟩
        clear TU
        rcases HQ.out with q | q
        · rw [okB_yes q]
          have Q : Hid (TurnOk (S k).id (S k).sq) := q
          clear q HQ
          by_cases q2 : 0 ≤ (S k).cd ∧ (S k).cd ≤ 19
          · obtain ⟨W, ⟨hW1, hW2⟩, WC⟩ := WI.out v0 TL.out q2
            have WH : Hid (Calls Tryd.prog 94 #[.int .i64 (S k).cd] v0 fun e w' => e = .returned (.string W) ∧ w' = w') := WC.mono fun e w' q => ⟨q.1, rfl⟩
            have WH' : Hid (Calls Tryd.prog 94 #[.int .i64 (S k).cd] v0 fun e w' => e = .returned (.string W) ∧ v0 = w') := WC
            have Q2 : Hid (0 ≤ (S k).cd ∧ (S k).cd ≤ 19) := q2
            clear WC q2 WH WI WO
            go_wp2_with fail
            refine WH'.out.mono ?_
            rintro e _ ⟨rfl, rfl⟩
            clear WH'
            by_cases q3 : (S k).ma < 0
            · obtain rfl := F.out (fun x => by have := (x.2 k hlt).1.2.2.1; omega)
              clear F T
              go_wp2
              go_ret
              exact ⟨rfl, B1.out⟩
            · by_cases q4 : 1000000 < (S k).ma
              · obtain rfl := F.out (fun x => by have := (x.2 k hlt).1.2.2.2; omega)
                clear F T
                go_wp2
                go_ret
                exact ⟨rfl, B1.out⟩
              · have OKk : Hid ((S k).Ok) := ⟨Q.out, Q2.out, by omega, by omega⟩
                go_wp2_with fail
                clear t2 t3 hW1 hW2 q3 q4
                rcases Nat.eq_zero_or_pos k with hz | hp
                · have z0 : ¬ (0 : Int) < (k : Int) := by omega
                  have HZ : Hid (k = 0) := hz
                  clear hz BI
                  have H : Below v0.heap.size v0 v0.drew := (Below.refl _ _).drew
                  refine wp_region_noPanic ?_
                  refine wp_region_held_drew (S := fun w' => Below v0.heap.size v0 w') (by kernel_rfl) H (fun _ => ?_)
                  generalize v0.drew = x0 at *
                  refine wpAnyH_take (i := 0) (v := .int .i64 k) rfl (by kernel_rfl) (by kernel_rfl) (by kernel_rfl) (fun _ _ _ h => h) (Or.inl ⟨by rfl, ?_⟩) H ?_
                  · intro w' hSw; clear hSw; go_simp
                  change wpAnyH _ _ _ _ _ _ _ { tmps := #[_,_,_,_,_,_,_,_,_,_,_,_,_,_,_,_,_,_,_,_,_,_,_,_,_,_,_,_,_,_,_,_,_,_,_,_,_,_,_,_,_,_,_,_,_,_,_,_,_,_,_], defers := _ } _
                  refine wpAnyH_take (i := 1) (v := .bool false) rfl (by kernel_rfl) (by kernel_rfl) (by kernel_rfl) (fun _ _ _ h => h) (Or.inl ⟨by rfl, ?_⟩) H ?_
                  · intro w' hSw; clear hSw; go_simp; exact HZ.out
                  change wpAnyH _ _ _ _ _ _ _ { tmps := #[_,_,_,_,_,_,_,_,_,_,_,_,_,_,_,_,_,_,_,_,_,_,_,_,_,_,_,_,_,_,_,_,_,_,_,_,_,_,_,_,_,_,_,_,_,_,_,_,_,_,_], defers := _ } _
                  refine wpAnyH_take (i := 2) (v := .bool false) rfl (by kernel_rfl) (by kernel_rfl) (by kernel_rfl) (fun _ _ _ h => h) (Or.inl ⟨by rfl, ?_⟩) H ?_
                  · intro w' hSw; clear hSw; go_simp
                  change wpAnyH _ _ _ _ _ _ _ { tmps := #[_,_,_,_,_,_,_,_,_,_,_,_,_,_,_,_,_,_,_,_,_,_,_,_,_,_,_,_,_,_,_,_,_,_,_,_,_,_,_,_,_,_,_,_,_,_,_,_,_,_,_], defers := _ } _
                  refine wpAnyH_take (i := 3) (v := undef) rfl (by kernel_rfl) (by kernel_rfl) (by kernel_rfl) (fun _ _ _ h => h) (Or.inr ⟨by rfl, rfl⟩) H ?_
                  change wpAnyH _ _ _ _ _ _ _ { tmps := #[_,_,_,_,_,_,_,_,_,_,_,_,_,_,_,_,_,_,_,_,_,_,_,_,_,_,_,_,_,_,_,_,_,_,_,_,_,_,_,_,_,_,_,_,_,_,_,_,_,_,_], defers := _ } _
                  refine wpAnyH_take (i := 4) (v := undef) rfl (by kernel_rfl) (by kernel_rfl) (by kernel_rfl) (fun _ _ _ h => h) (Or.inr ⟨by rfl, rfl⟩) H ?_
                  change wpAnyH _ _ _ _ _ _ _ { tmps := #[_,_,_,_,_,_,_,_,_,_,_,_,_,_,_,_,_,_,_,_,_,_,_,_,_,_,_,_,_,_,_,_,_,_,_,_,_,_,_,_,_,_,_,_,_,_,_,_,_,_,_], defers := _ } _
                  refine wpAnyH_take (i := 5) (v := undef) rfl (by kernel_rfl) (by kernel_rfl) (by kernel_rfl) (fun _ _ _ h => h) (Or.inr ⟨by rfl, rfl⟩) H ?_
                  change wpAnyH _ _ _ _ _ _ _ { tmps := #[_,_,_,_,_,_,_,_,_,_,_,_,_,_,_,_,_,_,_,_,_,_,_,_,_,_,_,_,_,_,_,_,_,_,_,_,_,_,_,_,_,_,_,_,_,_,_,_,_,_,_], defers := _ } _
                  refine wpAnyH_take (i := 6) (v := undef) rfl (by kernel_rfl) (by kernel_rfl) (by kernel_rfl) (fun _ _ _ h => h) (Or.inr ⟨by rfl, rfl⟩) H ?_
                  change wpAnyH _ _ _ _ _ _ _ { tmps := #[_,_,_,_,_,_,_,_,_,_,_,_,_,_,_,_,_,_,_,_,_,_,_,_,_,_,_,_,_,_,_,_,_,_,_,_,_,_,_,_,_,_,_,_,_,_,_,_,_,_,_], defers := _ } _
                  refine wpAnyH_take (i := 7) (v := undef) rfl (by kernel_rfl) (by kernel_rfl) (by kernel_rfl) (fun _ _ _ h => h) (Or.inr ⟨by rfl, rfl⟩) H ?_
                  change wpAnyH _ _ _ _ _ _ _ { tmps := #[_,_,_,_,_,_,_,_,_,_,_,_,_,_,_,_,_,_,_,_,_,_,_,_,_,_,_,_,_,_,_,_,_,_,_,_,_,_,_,_,_,_,_,_,_,_,_,_,_,_,_], defers := _ } _
                  refine wpAnyH_take (i := 8) (v := undef) rfl (by kernel_rfl) (by kernel_rfl) (by kernel_rfl) (fun _ _ _ h => h) (Or.inr ⟨by rfl, rfl⟩) H ?_
                  change wpAnyH _ _ _ _ _ _ _ { tmps := #[_,_,_,_,_,_,_,_,_,_,_,_,_,_,_,_,_,_,_,_,_,_,_,_,_,_,_,_,_,_,_,_,_,_,_,_,_,_,_,_,_,_,_,_,_,_,_,_,_,_,_], defers := _ } _
                  refine wpAnyH_take (i := 9) (v := undef) rfl (by kernel_rfl) (by kernel_rfl) (by kernel_rfl) (fun _ _ _ h => h) (Or.inr ⟨by rfl, rfl⟩) H ?_
                  change wpAnyH _ _ _ _ _ _ _ { tmps := #[_,_,_,_,_,_,_,_,_,_,_,_,_,_,_,_,_,_,_,_,_,_,_,_,_,_,_,_,_,_,_,_,_,_,_,_,_,_,_,_,_,_,_,_,_,_,_,_,_,_,_], defers := _ } _
                  refine wpAnyH_take (i := 10) (v := undef) rfl (by kernel_rfl) (by kernel_rfl) (by kernel_rfl) (fun _ _ _ h => h) (Or.inr ⟨by rfl, rfl⟩) H ?_
                  change wpAnyH _ _ _ _ _ _ _ { tmps := #[_,_,_,_,_,_,_,_,_,_,_,_,_,_,_,_,_,_,_,_,_,_,_,_,_,_,_,_,_,_,_,_,_,_,_,_,_,_,_,_,_,_,_,_,_,_,_,_,_,_,_], defers := _ } _
                  refine wpAnyH_take (i := 11) (v := undef) rfl (by kernel_rfl) (by kernel_rfl) (by kernel_rfl) (fun _ _ _ h => h) (Or.inr ⟨by rfl, rfl⟩) H ?_
                  change wpAnyH _ _ _ _ _ _ _ { tmps := #[_,_,_,_,_,_,_,_,_,_,_,_,_,_,_,_,_,_,_,_,_,_,_,_,_,_,_,_,_,_,_,_,_,_,_,_,_,_,_,_,_,_,_,_,_,_,_,_,_,_,_], defers := _ } _
                  refine wpAnyH_take (i := 12) (v := .bool false) rfl (by kernel_rfl) (by kernel_rfl) (by kernel_rfl) (fun _ _ _ h => h) (Or.inl ⟨by rfl, ?_⟩) H ?_
                  · intro w' hSw; clear hSw; go_simp
                  change wpAnyH _ _ _ _ _ _ _ { tmps := #[_,_,_,_,_,_,_,_,_,_,_,_,_,_,_,_,_,_,_,_,_,_,_,_,_,_,_,_,_,_,_,_,_,_,_,_,_,_,_,_,_,_,_,_,_,_,_,_,_,_,_], defers := _ } _
                  refine wpAnyH_done (by kernel_rfl) ?_ _
                  refine NoPanic.normal ?_
                  have B2 : Hid (Below w.heap.size w x0) := B1.out.trans (H.mono B1.out.size)
                  clear H B1 X HE
                  go_wp2
                  go_roundw
                  case rel => exact ⟨k + 1, by omega, by go_num, fun i hi => by
                    rcases Nat.lt_or_ge i k with g | g
                    · exact HI.out i g
                    · obtain rfl : i = k := by omega
                      exact ⟨OKk.out, fun z => absurd HZ.out (by omega)⟩, B2.out⟩
                  case measure => simp [intOf]; omega
                · have z0 : (0 : Int) < (k : Int) := by omega
                  obtain ⟨d0, d1, d2, d3⟩ := Els.seC HE.out (k - 1) (by omega)
                  have HP : Hid (0 < k) := hp
                  have i1 : IntKind.i64.wrap ((k : Int) - 1) = ((k - 1 : Nat) : Int) := by rw [IntWalk.i64_in _ (by omega)]; omega
                  have i2 : ((k - 1 : Nat) : Int) < (n : Int) := by omega
                  have HV : Hid ((S (k - 1)).id < (S k).id ∨ ¬ (S (k - 1)).id < (S k).id) := Classical.em _
                  clear hp
                  rcases HV.out with g | g
                  · have hcmp := cmpI_lt g
                    have G : Hid ((S (k - 1)).id < (S k).id) := g
                    clear g HV
                    have H : Below v0.heap.size v0 v0.drew := (Below.refl _ _).drew
                    refine wp_region_noPanic ?_
                    refine wp_region_held_drew (S := fun w' => Below v0.heap.size v0 w') (by kernel_rfl) H (fun _ => ?_)
                    generalize v0.drew = x0 at *
                    refine wpAnyH_take (i := 0) (v := .int .i64 k) rfl (by kernel_rfl) (by kernel_rfl) (by kernel_rfl) (fun _ _ _ h => h) (Or.inl ⟨by rfl, ?_⟩) H ?_
                    · intro w' hSw; clear hSw; go_simp
                    change wpAnyH _ _ _ _ _ _ _ { tmps := #[_,_,_,_,_,_,_,_,_,_,_,_,_,_,_,_,_,_,_,_,_,_,_,_,_,_,_,_,_,_,_,_,_,_,_,_,_,_,_,_,_,_,_,_,_,_,_,_,_,_,_], defers := _ } _
                    refine wpAnyH_take (i := 1) (v := .bool true) rfl (by kernel_rfl) (by kernel_rfl) (by kernel_rfl) (fun _ _ _ h => h) (Or.inl ⟨by rfl, ?_⟩) H ?_
                    · intro w' hSw; clear hSw; go_simp; exact HP.out
                    change wpAnyH _ _ _ _ _ _ _ { tmps := #[_,_,_,_,_,_,_,_,_,_,_,_,_,_,_,_,_,_,_,_,_,_,_,_,_,_,_,_,_,_,_,_,_,_,_,_,_,_,_,_,_,_,_,_,_,_,_,_,_,_,_], defers := _ } _
                    refine wpAnyH_take (i := 2) (v := .bool true) rfl (by kernel_rfl) (by kernel_rfl) (by kernel_rfl) (fun _ _ _ h => h) (Or.inl ⟨by rfl, ?_⟩) H ?_
                    · intro w' hSw; clear hSw; go_simp
                    change wpAnyH _ _ _ _ _ _ _ { tmps := #[_,_,_,_,_,_,_,_,_,_,_,_,_,_,_,_,_,_,_,_,_,_,_,_,_,_,_,_,_,_,_,_,_,_,_,_,_,_,_,_,_,_,_,_,_,_,_,_,_,_,_], defers := _ } _
                    refine wpAnyH_take (i := 3) (v := .slice (some ⟨b, off, none⟩) n c) rfl (by kernel_rfl) (by kernel_rfl) (by kernel_rfl) (fun _ _ _ h => h) (Or.inl ⟨by rfl, ?_⟩) H ?_
                    · intro w' hSw; clear hSw; go_simp
                    change wpAnyH _ _ _ _ _ _ _ { tmps := #[_,_,_,_,_,_,_,_,_,_,_,_,_,_,_,_,_,_,_,_,_,_,_,_,_,_,_,_,_,_,_,_,_,_,_,_,_,_,_,_,_,_,_,_,_,_,_,_,_,_,_], defers := _ } _
                    refine wpAnyH_take (i := 4) (v := .int .i64 k) rfl (by kernel_rfl) (by kernel_rfl) (by kernel_rfl) (fun _ _ _ h => h) (Or.inl ⟨by rfl, ?_⟩) H ?_
                    · intro w' hSw; clear hSw; go_simp
                    change wpAnyH _ _ _ _ _ _ _ { tmps := #[_,_,_,_,_,_,_,_,_,_,_,_,_,_,_,_,_,_,_,_,_,_,_,_,_,_,_,_,_,_,_,_,_,_,_,_,_,_,_,_,_,_,_,_,_,_,_,_,_,_,_], defers := _ } _
                    refine wpAnyH_take (i := 5) (v := .int .i64 ((k - 1 : Nat) : Int)) rfl (by kernel_rfl) (by kernel_rfl) (by kernel_rfl) (fun _ _ _ h => h) (Or.inl ⟨by rfl, ?_⟩) H ?_
                    · intro w' hSw; clear hSw; go_simp
                    change wpAnyH _ _ _ _ _ _ _ { tmps := #[_,_,_,_,_,_,_,_,_,_,_,_,_,_,_,_,_,_,_,_,_,_,_,_,_,_,_,_,_,_,_,_,_,_,_,_,_,_,_,_,_,_,_,_,_,_,_,_,_,_,_], defers := _ } _
                    refine wpAnyH_take (i := 6) (v := .pointer (some ⟨b, off + (k - 1) * 4, none⟩)) rfl (by kernel_rfl) (by kernel_rfl) (by kernel_rfl) (fun _ _ _ h => h) (Or.inl ⟨by rfl, ?_⟩) H ?_
                    · intro w' hSw; clear hSw; go_simp
                    change wpAnyH _ _ _ _ _ _ _ { tmps := #[_,_,_,_,_,_,_,_,_,_,_,_,_,_,_,_,_,_,_,_,_,_,_,_,_,_,_,_,_,_,_,_,_,_,_,_,_,_,_,_,_,_,_,_,_,_,_,_,_,_,_], defers := _ } _
                    refine wpAnyH_take (i := 7) (v := .agg #[.int .i64 (S (k - 1)).id, .int .i64 (S (k - 1)).sq, .int .i64 (S (k - 1)).cd, .int .i64 (S (k - 1)).ma]) rfl (by kernel_rfl) (by kernel_rfl) (by kernel_rfl) (fun _ _ _ h => h) (Or.inl ⟨by rfl, ?_⟩) H ?_
                    · intro w' hSw; have t0 := (hSw.cell (strBlock d0)).trans d0; have t1 := (hSw.cell (strBlock d1)).trans d1; have t2 := (hSw.cell (strBlock d2)).trans d2; have t3 := (hSw.cell (strBlock d3)).trans d3; clear hSw; go_simp
                    change wpAnyH _ _ _ _ _ _ _ { tmps := #[_,_,_,_,_,_,_,_,_,_,_,_,_,_,_,_,_,_,_,_,_,_,_,_,_,_,_,_,_,_,_,_,_,_,_,_,_,_,_,_,_,_,_,_,_,_,_,_,_,_,_], defers := _ } _
                    refine wpAnyH_take (i := 8) (v := .pointer (some ⟨rb, 0, none⟩)) rfl (by kernel_rfl) (by kernel_rfl) (by kernel_rfl) (fun _ _ _ h => h) (Or.inl ⟨by rfl, ?_⟩) H ?_
                    · intro w' hSw; clear hSw; go_simp
                    change wpAnyH _ _ _ _ _ _ _ { tmps := #[_,_,_,_,_,_,_,_,_,_,_,_,_,_,_,_,_,_,_,_,_,_,_,_,_,_,_,_,_,_,_,_,_,_,_,_,_,_,_,_,_,_,_,_,_,_,_,_,_,_,_], defers := _ } _
                    refine wpAnyH_take (i := 9) (v := .int .i64 (S k).id) rfl (by kernel_rfl) (by kernel_rfl) (by kernel_rfl) (fun _ _ _ h => h) (Or.inl ⟨by rfl, ?_⟩) H ?_
                    · intro w' hSw; have t0 := (X.out.below hSw).c0; clear hSw; go_simp
                    change wpAnyH _ _ _ _ _ _ _ { tmps := #[_,_,_,_,_,_,_,_,_,_,_,_,_,_,_,_,_,_,_,_,_,_,_,_,_,_,_,_,_,_,_,_,_,_,_,_,_,_,_,_,_,_,_,_,_,_,_,_,_,_,_], defers := _ } _
                    refine wpAnyH_ready (rs := [10]) (by kernel_rfl) (by simp) ?_
                    refine AllReadyH.cons rfl (fun KK hK => ?_) AllReadyH.nil
                    go_simp
                    refine (BI.out _ HP.out).mono ?_
                    rintro e x1 ⟨rfl, hb⟩
                    replace H : Below v0.heap.size v0 x1 := H.trans (hb.mono H.size)
                    rw [hcmp]
                    clear hb
                    refine hK.out _ _ H (fun _ => ?_)
                    clear hK KK
                    change wpAnyH _ _ _ _ _ _ _ { tmps := #[_,_,_,_,_,_,_,_,_,_,_,_,_,_,_,_,_,_,_,_,_,_,_,_,_,_,_,_,_,_,_,_,_,_,_,_,_,_,_,_,_,_,_,_,_,_,_,_,_,_,_], defers := _ } _
                    refine wpAnyH_take (i := 11) (v := .bool false) rfl (by kernel_rfl) (by kernel_rfl) (by kernel_rfl) (fun _ _ _ h => h) (Or.inl ⟨by rfl, ?_⟩) H ?_
                    · intro w' hSw; clear hSw; go_simp
                    change wpAnyH _ _ _ _ _ _ _ { tmps := #[_,_,_,_,_,_,_,_,_,_,_,_,_,_,_,_,_,_,_,_,_,_,_,_,_,_,_,_,_,_,_,_,_,_,_,_,_,_,_,_,_,_,_,_,_,_,_,_,_,_,_], defers := _ } _
                    refine wpAnyH_take (i := 12) (v := .bool false) rfl (by kernel_rfl) (by kernel_rfl) (by kernel_rfl) (fun _ _ _ h => h) (Or.inl ⟨by rfl, ?_⟩) H ?_
                    · intro w' hSw; clear hSw; go_simp
                    change wpAnyH _ _ _ _ _ _ _ { tmps := #[_,_,_,_,_,_,_,_,_,_,_,_,_,_,_,_,_,_,_,_,_,_,_,_,_,_,_,_,_,_,_,_,_,_,_,_,_,_,_,_,_,_,_,_,_,_,_,_,_,_,_], defers := _ } _
                    refine wpAnyH_done (by kernel_rfl) ?_ _
                    refine NoPanic.normal ?_
                    have B2 : Hid (Below w.heap.size w x1) := B1.out.trans (H.mono B1.out.size)
                    clear H B1 X HE BI d0 d1 d2 d3 hcmp
                    go_wp2
                    go_roundw
                    case rel => exact ⟨k + 1, by omega, by go_num, fun i hi => by
                      rcases Nat.lt_or_ge i k with g | g
                      · exact HI.out i g
                      · obtain rfl : i = k := by omega
                        exact ⟨OKk.out, fun _ => G.out⟩, B2.out⟩
                    case measure => simp [intOf]; omega
                  · obtain rfl := F.out (fun x => g ((x.2 k hlt).2 HP.out))
                    obtain ⟨y, hcmp, hy⟩ : ∃ y, cmpI (S (k - 1)).id (S k).id = y ∧ 0 ≤ y := ⟨_, rfl, by unfold cmpI; rw [if_neg g]; split <;> omega⟩
                    clear g HV F T
                    have H : Below v0.heap.size v0 v0.drew := (Below.refl _ _).drew
                    refine wp_region_noPanic ?_
                    refine wp_region_held_drew (S := fun w' => Below v0.heap.size v0 w') (by kernel_rfl) H (fun _ => ?_)
                    generalize v0.drew = x0 at *
                    refine wpAnyH_take (i := 0) (v := .int .i64 k) rfl (by kernel_rfl) (by kernel_rfl) (by kernel_rfl) (fun _ _ _ h => h) (Or.inl ⟨by rfl, ?_⟩) H ?_
                    · intro w' hSw; clear hSw; go_simp
                    change wpAnyH _ _ _ _ _ _ _ { tmps := #[_,_,_,_,_,_,_,_,_,_,_,_,_,_,_,_,_,_,_,_,_,_,_,_,_,_,_,_,_,_,_,_,_,_,_,_,_,_,_,_,_,_,_,_,_,_,_,_,_,_,_], defers := _ } _
                    refine wpAnyH_take (i := 1) (v := .bool true) rfl (by kernel_rfl) (by kernel_rfl) (by kernel_rfl) (fun _ _ _ h => h) (Or.inl ⟨by rfl, ?_⟩) H ?_
                    · intro w' hSw; clear hSw; go_simp; exact HP.out
                    change wpAnyH _ _ _ _ _ _ _ { tmps := #[_,_,_,_,_,_,_,_,_,_,_,_,_,_,_,_,_,_,_,_,_,_,_,_,_,_,_,_,_,_,_,_,_,_,_,_,_,_,_,_,_,_,_,_,_,_,_,_,_,_,_], defers := _ } _
                    refine wpAnyH_take (i := 2) (v := .bool true) rfl (by kernel_rfl) (by kernel_rfl) (by kernel_rfl) (fun _ _ _ h => h) (Or.inl ⟨by rfl, ?_⟩) H ?_
                    · intro w' hSw; clear hSw; go_simp
                    change wpAnyH _ _ _ _ _ _ _ { tmps := #[_,_,_,_,_,_,_,_,_,_,_,_,_,_,_,_,_,_,_,_,_,_,_,_,_,_,_,_,_,_,_,_,_,_,_,_,_,_,_,_,_,_,_,_,_,_,_,_,_,_,_], defers := _ } _
                    refine wpAnyH_take (i := 3) (v := .slice (some ⟨b, off, none⟩) n c) rfl (by kernel_rfl) (by kernel_rfl) (by kernel_rfl) (fun _ _ _ h => h) (Or.inl ⟨by rfl, ?_⟩) H ?_
                    · intro w' hSw; clear hSw; go_simp
                    change wpAnyH _ _ _ _ _ _ _ { tmps := #[_,_,_,_,_,_,_,_,_,_,_,_,_,_,_,_,_,_,_,_,_,_,_,_,_,_,_,_,_,_,_,_,_,_,_,_,_,_,_,_,_,_,_,_,_,_,_,_,_,_,_], defers := _ } _
                    refine wpAnyH_take (i := 4) (v := .int .i64 k) rfl (by kernel_rfl) (by kernel_rfl) (by kernel_rfl) (fun _ _ _ h => h) (Or.inl ⟨by rfl, ?_⟩) H ?_
                    · intro w' hSw; clear hSw; go_simp
                    change wpAnyH _ _ _ _ _ _ _ { tmps := #[_,_,_,_,_,_,_,_,_,_,_,_,_,_,_,_,_,_,_,_,_,_,_,_,_,_,_,_,_,_,_,_,_,_,_,_,_,_,_,_,_,_,_,_,_,_,_,_,_,_,_], defers := _ } _
                    refine wpAnyH_take (i := 5) (v := .int .i64 ((k - 1 : Nat) : Int)) rfl (by kernel_rfl) (by kernel_rfl) (by kernel_rfl) (fun _ _ _ h => h) (Or.inl ⟨by rfl, ?_⟩) H ?_
                    · intro w' hSw; clear hSw; go_simp
                    change wpAnyH _ _ _ _ _ _ _ { tmps := #[_,_,_,_,_,_,_,_,_,_,_,_,_,_,_,_,_,_,_,_,_,_,_,_,_,_,_,_,_,_,_,_,_,_,_,_,_,_,_,_,_,_,_,_,_,_,_,_,_,_,_], defers := _ } _
                    refine wpAnyH_take (i := 6) (v := .pointer (some ⟨b, off + (k - 1) * 4, none⟩)) rfl (by kernel_rfl) (by kernel_rfl) (by kernel_rfl) (fun _ _ _ h => h) (Or.inl ⟨by rfl, ?_⟩) H ?_
                    · intro w' hSw; clear hSw; go_simp
                    change wpAnyH _ _ _ _ _ _ _ { tmps := #[_,_,_,_,_,_,_,_,_,_,_,_,_,_,_,_,_,_,_,_,_,_,_,_,_,_,_,_,_,_,_,_,_,_,_,_,_,_,_,_,_,_,_,_,_,_,_,_,_,_,_], defers := _ } _
                    refine wpAnyH_take (i := 7) (v := .agg #[.int .i64 (S (k - 1)).id, .int .i64 (S (k - 1)).sq, .int .i64 (S (k - 1)).cd, .int .i64 (S (k - 1)).ma]) rfl (by kernel_rfl) (by kernel_rfl) (by kernel_rfl) (fun _ _ _ h => h) (Or.inl ⟨by rfl, ?_⟩) H ?_
                    · intro w' hSw; have t0 := (hSw.cell (strBlock d0)).trans d0; have t1 := (hSw.cell (strBlock d1)).trans d1; have t2 := (hSw.cell (strBlock d2)).trans d2; have t3 := (hSw.cell (strBlock d3)).trans d3; clear hSw; go_simp
                    change wpAnyH _ _ _ _ _ _ _ { tmps := #[_,_,_,_,_,_,_,_,_,_,_,_,_,_,_,_,_,_,_,_,_,_,_,_,_,_,_,_,_,_,_,_,_,_,_,_,_,_,_,_,_,_,_,_,_,_,_,_,_,_,_], defers := _ } _
                    refine wpAnyH_take (i := 8) (v := .pointer (some ⟨rb, 0, none⟩)) rfl (by kernel_rfl) (by kernel_rfl) (by kernel_rfl) (fun _ _ _ h => h) (Or.inl ⟨by rfl, ?_⟩) H ?_
                    · intro w' hSw; clear hSw; go_simp
                    change wpAnyH _ _ _ _ _ _ _ { tmps := #[_,_,_,_,_,_,_,_,_,_,_,_,_,_,_,_,_,_,_,_,_,_,_,_,_,_,_,_,_,_,_,_,_,_,_,_,_,_,_,_,_,_,_,_,_,_,_,_,_,_,_], defers := _ } _
                    refine wpAnyH_take (i := 9) (v := .int .i64 (S k).id) rfl (by kernel_rfl) (by kernel_rfl) (by kernel_rfl) (fun _ _ _ h => h) (Or.inl ⟨by rfl, ?_⟩) H ?_
                    · intro w' hSw; have t0 := (X.out.below hSw).c0; clear hSw; go_simp
                    change wpAnyH _ _ _ _ _ _ _ { tmps := #[_,_,_,_,_,_,_,_,_,_,_,_,_,_,_,_,_,_,_,_,_,_,_,_,_,_,_,_,_,_,_,_,_,_,_,_,_,_,_,_,_,_,_,_,_,_,_,_,_,_,_], defers := _ } _
                    refine wpAnyH_ready (rs := [10]) (by kernel_rfl) (by simp) ?_
                    refine AllReadyH.cons rfl (fun KK hK => ?_) AllReadyH.nil
                    go_simp
                    refine (BI.out _ HP.out).mono ?_
                    rintro e x1 ⟨rfl, hb⟩
                    replace H : Below v0.heap.size v0 x1 := H.trans (hb.mono H.size)
                    rw [hcmp]
                    clear hb
                    refine hK.out _ _ H (fun _ => ?_)
                    clear hK KK
                    change wpAnyH _ _ _ _ _ _ _ { tmps := #[_,_,_,_,_,_,_,_,_,_,_,_,_,_,_,_,_,_,_,_,_,_,_,_,_,_,_,_,_,_,_,_,_,_,_,_,_,_,_,_,_,_,_,_,_,_,_,_,_,_,_], defers := _ } _
                    refine wpAnyH_take (i := 11) (v := .bool true) rfl (by kernel_rfl) (by kernel_rfl) (by kernel_rfl) (fun _ _ _ h => h) (Or.inl ⟨by rfl, ?_⟩) H ?_
                    · intro w' hSw; clear hSw; go_simp
                    change wpAnyH _ _ _ _ _ _ _ { tmps := #[_,_,_,_,_,_,_,_,_,_,_,_,_,_,_,_,_,_,_,_,_,_,_,_,_,_,_,_,_,_,_,_,_,_,_,_,_,_,_,_,_,_,_,_,_,_,_,_,_,_,_], defers := _ } _
                    refine wpAnyH_take (i := 12) (v := .bool true) rfl (by kernel_rfl) (by kernel_rfl) (by kernel_rfl) (fun _ _ _ h => h) (Or.inl ⟨by rfl, ?_⟩) H ?_
                    · intro w' hSw; clear hSw; go_simp
                    change wpAnyH _ _ _ _ _ _ _ { tmps := #[_,_,_,_,_,_,_,_,_,_,_,_,_,_,_,_,_,_,_,_,_,_,_,_,_,_,_,_,_,_,_,_,_,_,_,_,_,_,_,_,_,_,_,_,_,_,_,_,_,_,_], defers := _ } _
                    refine wpAnyH_done (by kernel_rfl) ?_ _
                    refine NoPanic.normal ?_
                    have B2 : Hid (Below w.heap.size w x1) := B1.out.trans (H.mono B1.out.size)
                    clear H B1 X HE BI d0 d1 d2 d3 hcmp
                    go_wp2
                    go_ret
                    exact ⟨rfl, B2.out⟩
          · have WH : Hid (Calls Tryd.prog 94 #[.int .i64 (S k).cd] v0 fun e w' => e = .returned (.string ⟨#[]⟩) ∧ v0 = w') := WO.out v0 q2
            obtain rfl := F.out (fun x => q2 (x.2 k hlt).1.2.1)
            clear q2 WI WO F T
            go_wp2_with fail
            refine WH.out.mono ?_
            rintro e _ ⟨rfl, rfl⟩
            clear WH
            go_wp2
            go_ret
            exact ⟨rfl, B1.out⟩
        · rw [okB_no q]
          obtain rfl := F.out (fun x => q (x.2 k hlt).1.1)
          clear q HQ F T
          go_wp2
          go_ret
          exact ⟨rfl, B1.out⟩
      · have hlt' : ¬ (k : Int) < (n : Int) := by omega
        obtain rfl := T.out ⟨h0, fun i hi => HI.out i (by omega)⟩
        clear hb F T
        go_wp2
        go_ret
        exact ⟨rfl, HB.out⟩
  · have h0' : (6 : Int) < (n : Int) := by omega
    obtain rfl := F.out (fun q => h0 q.1)
    clear F T H
    go_enter Tryd.func56, Tryd.ntmps56
    go_wp2
    go_ret
    exact ⟨rfl, Below.refl _ _⟩
set_option maxRecDepth 100000 in
set_option maxHeartbeats 1000000 in
theorem implBankOK_any (b : Bk) (a0 a1 : Option Addr) (c0 c1 : Nat) (w : World) (h : BankV w b a0 a1) (hT : TabW w) :
    Calls Tryd.prog 23 #[.agg #[.slice a0 b.nr c0, .slice a1 b.ns c1]] w fun e w' => e = .returned (.bool (okB b.Ok)) ∧ Below w.heap.size w w' := by
  have F : Hid (¬ b.Ok → okB b.Ok = false) := okB_no
  have T : Hid (b.Ok → okB b.Ok = true) := okB_yes
  have A1 : Hid (Below w.heap.size w (w.alloc (.cells #[.slice a0 b.nr c0, .slice a1 b.ns c1] 46))) := (Below.refl _ _).alloc (Nat.le_refl _) _
  have X : Hid (Box2 (w.alloc (.cells #[.slice a0 b.nr c0, .slice a1 b.ns c1] 46)) w.heap.size 46 (.slice a0 b.nr c0) (.slice a1 b.ns c1)) := Box2.made _ _ _ _
  have RO : Hid (∀ w : World, Els w 3 a0 b.nr (rgF b.R) → Calls Tryd.prog 55 #[.slice a0 b.nr c0] w fun e w' => e = .returned (.bool (okB (RgsOk b.nr b.R))) ∧ Below w.heap.size w w') := fun w h => registersOK_any _ _ _ _ w h
  have SO : Hid (∀ w : World, Els w 4 a1 b.ns (seF b.S) → TabW w → Calls Tryd.prog 56 #[.slice a1 b.ns c1] w fun e w' => e = .returned (.bool (okB (SesOk b.ns b.S))) ∧ Below w.heap.size w w') := fun w h hT => sessionsOK_any _ _ _ _ w h hT
  have HV : Hid (BankV w b a0 a1) := h
  have TB : Hid (TabW w) := hT
  generalize okB b.Ok = z at *
  clear h hT
  go_enter Tryd.func23, Tryd.ntmps23
  go_wp2_with fail
  generalize (w.alloc (.cells #[.slice a0 b.nr c0, .slice a1 b.ns c1] 46)) = v at *
  refine (RO.out _ (HV.out.1.below A1.out)).mono ?_
  rintro e v1 ⟨rfl, hb⟩
  replace A1 : Hid (Below w.heap.size w v1) := A1.out.trans (hb.mono A1.out.size)
  have t1 := (X.out.below hb).c1
  clear hb X RO
  by_cases q : RgsOk b.nr b.R
  · rw [okB_yes q]
    have Q : Hid (RgsOk b.nr b.R) := q
    clear q
    go_wp2_with fail
    refine (SO.out _ (HV.out.2.below A1.out) (TB.out.below A1.out)).mono ?_
    rintro e v2 ⟨rfl, hb⟩
    replace A1 : Hid (Below w.heap.size w v2) := A1.out.trans (hb.mono A1.out.size)
    clear hb SO t1
    by_cases q : SesOk b.ns b.S
    · obtain rfl := T.out ⟨Q.out, q⟩
      rw [okB_yes q]
      clear F T
      go_wp2
      go_ret
      exact ⟨rfl, A1.out⟩
    · obtain rfl := F.out (fun x => q x.2)
      rw [okB_no q]
      clear F T
      go_wp2
      go_ret
      exact ⟨rfl, A1.out⟩
  · obtain rfl := F.out (fun x => q x.1)
    rw [okB_no q]
    clear F T
    go_wp2
    go_ret
    exact ⟨rfl, A1.out⟩
end Go.Proofs.YtpngjkhncfbnpaaDoor
