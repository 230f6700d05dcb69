/-
  The contract of impl.KeySchedule.
-/
import Derived.Test.YthfnpplpelinbaaCipher
import Derived.Test.YthfnpplpelinbaaKMath
import Derived.Deep.Cut
import Derived.Deep.CutRange
import Derived.Deep.DeepCutAuto
namespace Go.Proofs.Ythfnpplpelinbaa
open Go.ChangeShapes Go.WideShapes Go.ChangeAt Go.RowKit
theorem keyOK_yes (s : ByteArray) (h : s.size = 16 ∨ s.size = 32) (w : World) : Calls Try.prog 31 #[.string s] w fun e w' => e = .returned (.bool true) ∧ w' = w := by
  rcases h with h | h
  · go_enter Try.func31, Try.ntmps31
    go_wp2
    go_ret
    exact ⟨rfl, rfl⟩
  · go_enter Try.func31, Try.ntmps31
    go_wp2
    go_ret
    exact ⟨rfl, rfl⟩
theorem keyOK_no (s : ByteArray) (h1 : s.size ≠ 16) (h2 : s.size ≠ 32) (w : World) : Calls Try.prog 31 #[.string s] w fun e w' => e = .returned (.bool false) ∧ w' = w := by
  have e1 : ((s.size : Int) == 16) = false := by rw [beq_eq_false_iff_ne]; omega
  have e2 : ((s.size : Int) == 32) = false := by rw [beq_eq_false_iff_ne]; omega
  go_enter Try.func31, Try.ntmps31
  go_wp2
  go_ret
  exact ⟨rfl, rfl⟩
theorem Try.infoStr : (Try.prog.info? 9).map (fun i => (i.zero, i.size, i.bytes)) = some (some (.string ⟨#[]⟩), 1, 16) := by kernel_rfl
theorem mkStrs (n : Nat) (hn : n ≤ 100000) (w : World) : (Instr.makeSlice 28 (.int .i64 (n : Int)) (.int .i64 (n : Int))).run Try.prog w = .ok (.slice (some ⟨w.heap.size, 0, none⟩) n n) (w.alloc (.cells (madeCells #[.string ⟨#[]⟩] n) 9)) :=
  run_make_row' 28 9 (.string ⟨#[]⟩) 16 Try.underlying28 Try.infoStr rfl .i64 .i64 n (by omega) (by omega) w
theorem impl_long (s : ByteArray) (h : 65536 < s.size) (w : World) : Calls Try.prog 13 #[.string s] w fun e w' => e = .returned (.tuple #[.slice none 0 0, .int .i64 2]) ∧ w' = w := by
  have e1 : (65536 : Int) < s.size := by omega
  go_enter Try.func13, Try.ntmps13
  go_wp2
  go_ret2
  exact ⟨rfl, rfl⟩
theorem impl_bad (s : ByteArray) (h : s.size ≤ 65536) (h1 : s.size ≠ 16) (h2 : s.size ≠ 32) (w : World) : Calls Try.prog 13 #[.string s] w fun e w' => e = .returned (.tuple #[.slice none 0 0, .int .i64 1]) ∧ w' = w := by
  have e1 : ¬ (65536 : Int) < s.size := by omega
  go_enter Try.func13, Try.ntmps13
  go_wp2_with (go_at_call 31; refine (keyOK_no s h1 h2 _).mono ?_; rintro e w' ⟨rfl, rfl⟩)
  go_ret2
  exact ⟨rfl, rfl⟩
set_option maxRecDepth 100000 in
set_option maxHeartbeats 4000000 in
/-- impl.KeySchedule of a key -/
theorem implKeys_any (s : ByteArray) (n : Nat) (hn : n = 4 ∨ n = 8) (hs : s.size = n * 4) (w : World) :
    Calls Try.prog 13 #[.string s] w fun e w' => (∃ b, w.heap.size ≤ b ∧ e = .returned (.tuple #[.slice (some ⟨b, 0, none⟩) (n + 7) (n + 7), .int .i64 0]) ∧ w'.rowIs b 9 (n + 7) (fun j => .string (kstr (Gf.ws (strB s) n (3 * n + 28)) (j * 16) 16))) ∧ Below w.heap.size w w' := by
  have e1 : ¬ (65536 : Int) < s.size := by omega
  have KO : Hid (∀ w : World, Calls Try.prog 31 #[.string s] w fun e w' => e = .returned (.bool true) ∧ w = w') := fun w => (keyOK_yes s (by omega) w).mono fun e w' h => ⟨h.1, h.2.symm⟩
  have NC : Hid (∀ w : World, Calls Try.prog 23 #[.string s] w fun e w' => e = .returned (.agg (cA (n + 6) (Gf.ws (strB s) n (3 * n + 28)))) ∧ Below w.heap.size w w') := newCipher_any s n hn hs
  have LW : Hid (∀ j, Gf.ws (strB s) n (3 * n + 28) j < 256) := Gf.ws_lt (strB_lt s) _
  generalize Gf.ws (strB s) n (3 * n + 28) = W at *
  obtain ⟨Z, z0, hZ, -⟩ := Try.zeroC
  have S2 : Hid ((Try.prog.info? 46).map (·.size) = some (cA (n + 6) W).size) := by rw [cA_size]; exact Try.sizeC
  have O2 : Hid ((cA (n + 6) W).all (·.oneCell') = true) := cA_one _ _
  have hs' : Hid (s.size = n * 4) := hs
  clear hs
  go_enter Try.func13, Try.ntmps13
  have hLen : (cA (n + 6) W).toList.length = 769 := cA_len _ _
  have hAt : Hid (∀ k, k < 769 → (cA (n + 6) W).toList[k]? = some (cf (n + 6) W k)) := fun k hk => by
    have := cA_at (n := n + 6) (K := W) hk
    rwa [← Array.getElem?_toList] at this
  have HSZ : Hid ((cA (n + 6) W).size = 769) := cA_size _ _
  generalize cA (n + 6) W = CA at *
  go_upto_region 6 with (first
    | (go_at_call 31; refine (KO.out _).mono ?_; rintro e w' ⟨rfl, rfl⟩)
    | (go_at_call 23; refine (NC.out _).mono ?_; rintro e w1 ⟨rfl, hb⟩)
    | (refine wpList_store_mid rfl 46 (.tmp 4) (.tmp 14) rfl _ 0 CA rfl rfl ?_ S2.out O2.out ?_))
  · rw [HSZ.out]; exact there_big w1 Z _ hZ
  · have R1 : ((w1.alloc (.cells Z 46)).setCells w1.heap.size 0 CA.toList).rangeAt w1.heap.size 0 CA.toList := World.rangeAt_setCells_same _ _ _ _ (by rw [hLen]; exact there_big w1 Z _ hZ)
    have CC : Hid (∀ k, k < 769 → ((w1.alloc (.cells Z 46)).setCells w1.heap.size 0 CA.toList).cell? ⟨w1.heap.size, k, none⟩ = some (cf (n + 6) W k)) := fun k hk => by
      have := R1 k _ (hAt.out k hk)
      rwa [Nat.zero_add] at this
    have hsz := hb.size
    have B1 : Hid (Below w.heap.size w ((w1.alloc (.cells Z 46)).setCells w1.heap.size 0 CA.toList)) := below_setCells hsz _ _ _ (hb.alloc hsz _)
    have hC : w1.heap.size < ((w1.alloc (.cells Z 46)).setCells w1.heap.size 0 CA.toList).heap.size := by rw [size_setCells]; simp
    clear R1 hb NC KO S2 O2 hLen hAt HSZ z0 hZ
    generalize (w1.alloc (.cells Z 46)).setCells w1.heap.size 0 CA.toList = wz at *
    generalize w1.heap.size = C at *
    have c0 : wz.cell? ⟨C, 0, none⟩ = some (.int .i64 ((n + 6 : Nat) : Int)) := CC.out 0 (by omega)
    have mk : ∀ w : World, (Instr.makeSlice 28 (.int .i64 ((n : Int) + 6 + 1)) (.int .i64 ((n : Int) + 6 + 1))).run Try.prog w = .ok (.slice (some ⟨w.heap.size, 0, none⟩) (n + 7) (n + 7)) (w.alloc (.cells (madeCells #[.string ⟨#[]⟩] (n + 7)) 9)) := mkStrs (n + 7) (by omega)
    have RW : Hid ((wz.alloc (.cells (madeCells #[.string ⟨#[]⟩] (n + 7)) 9)).rowIs wz.heap.size 9 (n + 7) (fun _ => .string ⟨#[]⟩)) := World.rowIs_made wz _ _ _
    have CC' : Hid (∀ k, k < 769 → (wz.alloc (.cells (madeCells #[.string ⟨#[]⟩] (n + 7)) 9)).cell? ⟨C, k, none⟩ = some (cf (n + 6) W k)) := fun k hk => by
      rw [World.cell?_alloc_lt _ _ _ hC]; exact CC.out k hk
    have B2 : Hid (Below w.heap.size w (wz.alloc (.cells (madeCells #[.string ⟨#[]⟩] (n + 7)) 9))) := B1.out.alloc B1.out.size _
    have hL : w.heap.size ≤ wz.heap.size := B1.out.size
    go_wp2
    clear mk c0 CC B1
    have RW' := RW
    generalize wz.alloc (.cells (madeCells #[.string ⟨#[]⟩] (n + 7)) 9) = wy at *
    generalize wz.heap.size = L at *
    go_loopw [21] (fun i wr => ∃ q : Nat, q ≤ n + 7 ∧ i = .int .i64 q ∧ wr.rowIs L 9 (n + 7) (fun j => if j < q then .string (kstr W (j * 16) 16) else .string ⟨#[]⟩) ∧ (∀ k, k < 769 → wr.cell? ⟨C, k, none⟩ = some (cf (n + 6) W k)) ∧ Below w.heap.size w wr) (fun i _ => n + 7 - (intOf i).toNat)
    case atStart => exact ⟨0, by omega, rfl, RW.out.congr (fun j hj => by rw [if_neg (by omega)]), CC'.out, B2.out⟩
    case round =>
      clear RW RW' CC' B2
      obtain ⟨q, hq, rfl, hrow, hcc, hb⟩ := hrel
      have HRW : Hid (wr.rowIs L 9 (n + 7) (fun j => if j < q then .string (kstr W (j * 16) 16) else .string ⟨#[]⟩)) := hrow
      have HCC : Hid (∀ k, k < 769 → wr.cell? ⟨C, k, none⟩ = some (cf (n + 6) W k)) := hcc
      have HB : Hid (Below w.heap.size w wr) := hb
      by_cases hlt : q < n + 7
      · have hcv : ∀ cap, (convert 22 9 (.slice (some ⟨C, 1 + q * 16, none⟩) 16 cap)).run Try.prog wr = .ok (.string (kstr W (q * 16) 16)) wr := fun cap => by
          refine run_convert_bytes_arg wr 22 5 Try.underlying22 Try.underlying5 C (1 + q * 16) 16 cap ((List.range 16).map fun i => ((W (q * 16 + i) : Nat) : Int)) (by simp) (fun i hi => ?_) 9 Try.underlying9
          rw [hcc _ (by omega)]
          unfold cf
          rw [if_neg (by omega), if_pos (by omega), show 1 + q * 16 + i - 1 = q * 16 + i from by omega]
          simp [hi]
        have f1 := hrow.frozen q
        have g1 := hrow.cell hlt
        rw [if_neg (by omega)] at g1
        have x1 : (q : Int) < (n : Int) + 7 := by omega
        have x2 : (q : Int) < 15 := by omega
        have x3 : (0 : Int) ≤ (q : Int) := by omega
        clear hrow hcc hb
        go_wp2
        go_roundw
        case rel =>
          refine ⟨q + 1, by omega, by go_num, ?_, fun k hk => ?_, HB.out.setCell (p := ⟨L, q, none⟩) hL _⟩
          · exact (HRW.out.set q _).congr (fun j hj => by
              by_cases e : j = q
              · subst e; rw [if_pos rfl, if_pos (by omega)]
              · rw [if_neg e]
                by_cases h1 : j < q
                · rw [if_pos h1, if_pos (by omega)]
                · rw [if_neg h1, if_neg (by omega)])
          · rw [World.cell?_setCell_other _ _ _ _ (by intro h; cases h; omega)]; exact HCC.out k hk
        case measure => simp [intOf]; omega
      · obtain rfl : q = n + 7 := by omega
        have HF : Hid (wr.rowIs L 9 (n + 7) (fun j => .string (kstr W (j * 16) 16))) := hrow.congr (fun j hj => by rw [if_pos hj])
        clear hrow hcc hb HRW HCC
        go_wp2
        go_ret2
        exact ⟨⟨L, hL, rfl, HF.out⟩, HB.out⟩
end Go.Proofs.Ythfnpplpelinbaa
