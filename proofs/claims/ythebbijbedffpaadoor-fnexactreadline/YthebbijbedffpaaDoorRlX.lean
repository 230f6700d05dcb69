/-
  The model: l15Read and ReadLine.
-/
import Derived.Test.YthebbijbedffpaaDoorRlV
import Derived.Test.YthebbijbedffpaaDoorRlN
namespace Go.Proofs.YthebbijbedffpaaDoor
open Go.ChangeShapes Go.WideShapes Go.ChangeAt Go.RowKit
set_option linter.unusedVariables false
set_option linter.unusedSimpArgs false
/-- The commands of one word, by their kinds. -/
def kds : List ByteArray := [⟨#[]⟩, ⟨#[109, 111, 117, 110, 116]⟩, ⟨#[]⟩, ⟨#[115, 121, 110, 99]⟩, ⟨#[117, 110, 109, 111, 117, 110, 116]⟩, ⟨#[115, 97, 118, 101]⟩, ⟨#[114, 111, 108, 108, 98, 97, 99, 107]⟩]
def kd (k : Nat) : ByteArray := kds.getD k ⟨#[]⟩
/-- Which command a kind is. -/
def kI (k : Nat) : Nat := if k = 1 then 0 else if k = 3 then 1 else if k = 4 then 3 else if k = 5 then 4 else 5
theorem kd_cmd (k : Nat) (h1 : 1 ≤ k) (h7 : k < 7) (h2 : k ≠ 2) : cmds[kI k]? = some (kd k) := by
  rcases (show k = 1 ∨ k = 3 ∨ k = 4 ∨ k = 5 ∨ k = 6 by omega) with rfl | rfl | rfl | rfl | rfl <;> rfl
theorem ans_kd {s : ByteArray} {q : Nat} (h : WdN s q) (k : Nat) (h1 : 1 ≤ k) (h7 : k < 7) (h2 : k ≠ 2) : ansI (kI k) s (oW s 1) = bif decide (1 < q) then none else some ((k : Int), 0, clZ) := by
  rw [← hasW_at h 1]
  rcases (show k = 1 ∨ k = 3 ∨ k = 4 ∨ k = 5 ∨ k = 6 by omega) with rfl | rfl | rfl | rfl | rfl <;> rfl
def ReadS (s : ByteArray) (e : Ending) : Prop := ∃ (k c : Int) (x : Cl) (ok : Bool), e = .returned (.tuple #[vaV k c x, .bool ok]) ∧ lineA s = bif ok then some (k, c, x) else none
theorem lineA_at {s : ByteArray} {i : Nat} (h : cmds[i]? = some (wT s 0)) : lineA s = ansI i s (oW s 1) := by
  have e : cmdI (wW s 0) = some i := cmdI_at h
  rw [lineA, e]
  rfl
theorem litYes (t : ByteArray) : (t.toList == t.toList) = true := by simp
theorem txtNe {t u : ByteArray} (h : t ≠ u) : (t.toList == u.toList) = false := by
  rw [beq_eq_false_iff_ne, ByteArray.toList_eq, ByteArray.toList_eq]
  exact fun e => h (ByteArray.ext (Array.toList_inj.1 e))
/-- What l15Call answers, whatever the first word. -/
def CallA (s : ByteArray) (e : Ending) : Prop := ∃ (x : Cl) (ok : Bool), e = .returned (.tuple #[clA x, .bool ok]) ∧ lineA s = bif ok then some (2, 0, x) else none
theorem CallS.a {s : ByteArray} {i : Nat} {e : Ending} (h : CallS s i e) (hc : cmds[i]? = some (wT s 0)) : CallA s e := by
  obtain ⟨x, ok, h1, h2⟩ := h
  exact ⟨x, ok, h1, (lineA_at hc).trans h2⟩
theorem sCall_any (s : ByteArray) (hs : s.size ≤ 65536) (q c g : Nat) (hq : 0 < q) (hW : WdN s q) (w : World) (hg : g < w.heap.size) (hk : ∀ k, 1 ≤ k → k < 7 → kd k ≠ wT s 0) (h2 : ¬ (wT s 0 = ⟨#[99, 114, 97, 115, 104]⟩ ∧ q = 1)) (hc : ∀ j, j < q → w.cell? ⟨g, j, none⟩ = some (.string (wT s j))) :
    Calls Tryd.prog 31 #[.string s, .slice (some ⟨g, 0, none⟩) q c] w fun e w' => CallA s e ∧ Below w.heap.size w w' := by
  rcases cmd_cases (wT s 0) with ⟨hn, hno⟩ | ⟨i, hi, hci, hct⟩
  · refine (sCall_other s hs q c g hq w hg (fun i _ => hno i) hc).mono ?_
    rintro e w' ⟨⟨x, rfl⟩, hb⟩
    have e : cmdI (wW s 0) = none := hn
    exact ⟨⟨x, false, rfl, by rw [lineA, e]; rfl⟩, hb⟩
  · by_cases h6 : 6 ≤ i
    · rcases (show i = 6 ∨ i = 7 ∨ i = 8 ∨ i = 9 ∨ i = 10 ∨ i = 11 ∨ i = 12 by omega) with rfl | rfl | rfl | rfl | rfl | rfl | rfl
      · refine (sCall_mkdir s hs q c g hq hW w hg (Option.some.inj hct).symm hc).mono ?_
        rintro e w' ⟨h, hb⟩
        exact ⟨h.a hct, hb⟩
      · refine (sCall_write s hs q c g hq hW w hg (Option.some.inj hct).symm hc).mono ?_
        rintro e w' ⟨h, hb⟩
        exact ⟨h.a hct, hb⟩
      · refine (sCall_read s hs q c g hq hW w hg (Option.some.inj hct).symm hc).mono ?_
        rintro e w' ⟨h, hb⟩
        exact ⟨h.a hct, hb⟩
      · refine (sCall_cut s hs q c g hq hW w hg (Option.some.inj hct).symm hc).mono ?_
        rintro e w' ⟨h, hb⟩
        exact ⟨h.a hct, hb⟩
      · refine (sCall_move s hs q c g hq hW w hg (Option.some.inj hct).symm hc).mono ?_
        rintro e w' ⟨h, hb⟩
        exact ⟨h.a hct, hb⟩
      · refine (sCall_rm s hs q c g hq hW w hg (Option.some.inj hct).symm hc).mono ?_
        rintro e w' ⟨h, hb⟩
        exact ⟨h.a hct, hb⟩
      · refine (sCall_ls s hs q c g hq hW w hg (Option.some.inj hct).symm hc).mono ?_
        rintro e w' ⟨h, hb⟩
        exact ⟨h.a hct, hb⟩
    · have ho : ∀ j : Nat, 6 ≤ j → cmds[j]? ≠ some (wT s 0) := fun j hj e => by have := cmds_inj i j _ hct e; omega
      refine (sCall_other s hs q c g hq w hg ho hc).mono ?_
      rintro e w' ⟨⟨x, rfl⟩, hb⟩
      refine ⟨⟨x, false, rfl, ?_⟩, hb⟩
      rcases (show i = 0 ∨ i = 1 ∨ i = 2 ∨ i = 3 ∨ i = 4 ∨ i = 5 by omega) with rfl | rfl | rfl | rfl | rfl | rfl
      · exact absurd (Option.some.inj hct) (hk 1 (by omega) (by omega))
      · exact absurd (Option.some.inj hct) (hk 3 (by omega) (by omega))
      · rw [lineA_at hct, ansQ hW 2]
        have hq1 : 1 < q := by
          rcases Nat.lt_or_ge 1 q with z | z
          · exact z
          · exact absurd ⟨(Option.some.inj hct).symm, by omega⟩ h2
        simp [hq1]
      · exact absurd (Option.some.inj hct) (hk 4 (by omega) (by omega))
      · exact absurd (Option.some.inj hct) (hk 5 (by omega) (by omega))
      · exact absurd (Option.some.inj hct) (hk 6 (by omega) (by omega))
set_option maxRecDepth 100000 in
set_option maxHeartbeats 8000000 in
theorem l15Read_any (s : ByteArray) (hs : s.size ≤ 65536) (q c g : Nat) (hq : 0 < q) (hqm : q ≤ 65537) (hW : WdN s q) (w : World) (hg : g < w.heap.size) (hc : ∀ j, j < q → w.cell? ⟨g, j, none⟩ = some (.string (wT s j))) :
    Calls Tryd.prog 10 #[.string s, .slice (some ⟨g, 0, none⟩) q c] w fun e w' => ReadS s e ∧ Below w.heap.size w w' := by
  have V2 : Hid (VaB ((w.alloc (.cells #[.int .i64 0, .int .i64 0, .int .i64 0, .int .i64 0, .int .i64 0, .int .i64 0, .string ⟨#[]⟩, .string ⟨#[]⟩, .string ⟨#[]⟩, .string ⟨#[]⟩, .slice none 0 0, .int .i64 0, .bool false, .bool false] 26)).alloc (.cells #[.string ⟨#[]⟩, .string ⟨#[109, 111, 117, 110, 116]⟩, .string ⟨#[]⟩, .string ⟨#[115, 121, 110, 99]⟩, .string ⟨#[117, 110, 109, 111, 117, 110, 116]⟩, .string ⟨#[115, 97, 118, 101]⟩, .string ⟨#[114, 111, 108, 108, 98, 97, 99, 107]⟩] 9)) w.heap.size 0 0 clZ) := (VaB.made rfl).below ((Below.refl _ _).alloc (Nat.le_refl _) _)
  have A2 : Hid (Below w.heap.size w ((w.alloc (.cells #[.int .i64 0, .int .i64 0, .int .i64 0, .int .i64 0, .int .i64 0, .int .i64 0, .string ⟨#[]⟩, .string ⟨#[]⟩, .string ⟨#[]⟩, .string ⟨#[]⟩, .slice none 0 0, .int .i64 0, .bool false, .bool false] 26)).alloc (.cells #[.string ⟨#[]⟩, .string ⟨#[109, 111, 117, 110, 116]⟩, .string ⟨#[]⟩, .string ⟨#[115, 121, 110, 99]⟩, .string ⟨#[117, 110, 109, 111, 117, 110, 116]⟩, .string ⟨#[115, 97, 118, 101]⟩, .string ⟨#[114, 111, 108, 108, 98, 97, 99, 107]⟩] 9))) := ((Below.refl _ _).alloc (Nat.le_refl _) _).alloc (by simp) _
  have L2 : Hid (((w.alloc (.cells #[.int .i64 0, .int .i64 0, .int .i64 0, .int .i64 0, .int .i64 0, .int .i64 0, .string ⟨#[]⟩, .string ⟨#[]⟩, .string ⟨#[]⟩, .string ⟨#[]⟩, .slice none 0 0, .int .i64 0, .bool false, .bool false] 26)).alloc (.cells #[.string ⟨#[]⟩, .string ⟨#[109, 111, 117, 110, 116]⟩, .string ⟨#[]⟩, .string ⟨#[115, 121, 110, 99]⟩, .string ⟨#[117, 110, 109, 111, 117, 110, 116]⟩, .string ⟨#[115, 97, 118, 101]⟩, .string ⟨#[114, 111, 108, 108, 98, 97, 99, 107]⟩] 9)).rowIs (w.heap.size + 1) 9 7 (fun i => .string (kd i))) := by
    have e : (w.alloc (.cells #[.int .i64 0, .int .i64 0, .int .i64 0, .int .i64 0, .int .i64 0, .int .i64 0, .string ⟨#[]⟩, .string ⟨#[]⟩, .string ⟨#[]⟩, .string ⟨#[]⟩, .slice none 0 0, .int .i64 0, .bool false, .bool false] 26)).heap.size = w.heap.size + 1 := by simp
    show World.rowIs _ _ _ _ _
    rw [← e]
    exact World.rowIs_alloc (w.alloc (.cells #[.int .i64 0, .int .i64 0, .int .i64 0, .int .i64 0, .int .i64 0, .int .i64 0, .string ⟨#[]⟩, .string ⟨#[]⟩, .string ⟨#[]⟩, .string ⟨#[]⟩, .slice none 0 0, .int .i64 0, .bool false, .bool false] 26)) _ _ _ (fun i hi => by
      rcases (show i = 0 ∨ i = 1 ∨ i = 2 ∨ i = 3 ∨ i = 4 ∨ i = 5 ∨ i = 6 by simp at hi; omega) with rfl | rfl | rfl | rfl | rfl | rfl | rfl <;> rfl)
  have HC : Hid (∀ w', Below w.heap.size w w' → ∀ j, j < q → w'.cell? ⟨g, j, none⟩ = some (.string (wT s j))) := fun w' hb j hj => by rw [hb.cell hg]; exact hc j hj
  have HW : Hid (WdN s q) := hW
  have HT : Hid (wT s 0 ≠ ⟨#[]⟩) := by
    have := wW_in (s := s) (o := oW s 0) (by rw [hasW_at hW 0]; exact decide_eq_true hq)
    exact this
  have q0 : (q : Int) ≤ 65537 := by omega
  have q1 : (0 : Int) < (q : Int) := by omega
  clear hc hW
  go_enter Tryd.func10, Tryd.ntmps10
  go_wp2
  generalize ((w.alloc (.cells #[.int .i64 0, .int .i64 0, .int .i64 0, .int .i64 0, .int .i64 0, .int .i64 0, .string ⟨#[]⟩, .string ⟨#[]⟩, .string ⟨#[]⟩, .string ⟨#[]⟩, .slice none 0 0, .int .i64 0, .bool false, .bool false] 26)).alloc (.cells #[.string ⟨#[]⟩, .string ⟨#[109, 111, 117, 110, 116]⟩, .string ⟨#[]⟩, .string ⟨#[115, 121, 110, 99]⟩, .string ⟨#[117, 110, 109, 111, 117, 110, 116]⟩, .string ⟨#[115, 97, 118, 101]⟩, .string ⟨#[114, 111, 108, 108, 98, 97, 99, 107]⟩] 9)) = w2 at *
  go_loopw [7] (fun i wr => ∃ k : Nat, 1 ≤ k ∧ k ≤ 7 ∧ i = .int .i64 (k : Int) ∧ (∀ j, 1 ≤ j → j < k → kd j ≠ wT s 0) ∧ Below w2.heap.size w2 wr) (fun i _ => 7 - (intOf i).toNat)
  case atStart => exact ⟨1, by omega, by omega, rfl, fun j h1 h2 => by omega, Below.refl _ _⟩
  case round =>
    obtain ⟨k, hk1, hk7, rfl, hno, hb⟩ := hrel
    have HN : Hid (∀ j, 1 ≤ j → j < k → kd j ≠ wT s 0) := hno
    have B2 : Hid (Below w2.heap.size w2 wr) := hb
    have V3 : Hid (VaB wr w.heap.size 0 0 clZ) := V2.out.below hb
    have L3 : Hid (wr.rowIs (w.heap.size + 1) 9 7 (fun i => .string (kd i))) := World.rowIs.of_block L2.out (hb.block _ (World.rowIs.lt L2.out))
    have A3 : Hid (Below w.heap.size w wr) := A2.out.trans (hb.mono A2.out.size)
    clear hno hb
    by_cases hk : k < 7
    · have hk' : (k : Int) < 7 := by omega
      have hk0 : (0 : Int) ≤ (k : Int) := by omega
      have CA : Hid (∀ w' : World, Below wr.heap.size wr w' → w'.cell? ⟨w.heap.size + 1, k, none⟩ = some (.string (kd k))) := fun w' hb => (hb.cell (World.rowIs.lt L3.out)).trans (World.rowIs.cell L3.out hk)
      have CB : Hid (∀ w' : World, Below wr.heap.size wr w' → w'.cell? ⟨g, 0, none⟩ = some (.string (wT s 0))) := fun w' hb => HC.out w' (A3.out.trans (hb.mono A3.out.size)) 0 hq
      by_cases he : kd k = wT s 0
      · have k2 : k ≠ 2 := fun z => by subst z; exact HT.out he.symm
        have hct : cmds[kI k]? = some (wT s 0) := by rw [← he]; exact kd_cmd k hk1 hk k2
        have HL : Hid (lineA s = bif ((q : Int) == 1) then some ((k : Int), 0, clZ) else none) := by
          show _ = _
          rw [lineA_at hct, ans_kd HW.out k hk1 hk k2]
          by_cases z : q = 1
          · subst z; rfl
          · rw [decide_eq_true (show 1 < q by omega), show ((q : Int) == 1) = false by rw [beq_eq_false_iff_ne]; omega]; rfl
        have e1 : ((kd k).toList == (wT s 0).toList) = true := by rw [he]; exact litYes _
        have e2 : ((kd k).toList == []) = false := by rw [he]; exact litNe (u := ⟨#[]⟩) HT.out
        clear he hct
        generalize kd k = kt at *
        generalize wT s 0 = t at *
        go_wp2_with fail
        have H : Below wr.heap.size wr wr.drew := (Below.refl _ _).drew
        refine wp_region_noPanic ?_
        refine wp_region_held_drew (S := fun w' => Below wr.heap.size wr w') (by kernel_rfl) H (fun _ => ?_)
        generalize wr.drew = y0 at *
        refine wpAnyH_take (i := 0) (v := .slice (some ⟨w.heap.size + 1, 0, none⟩) 7 7) rfl (by kernel_rfl) (by kernel_rfl) (by kernel_rfl) (fun _ _ _ h => h) (Or.inl ⟨by rfl, ?_⟩) H ?_
        · intro w' hSw; go_simp
        change wpAnyH _ _ _ _ _ _ _ { tmps := #[_, _, _, _, _, _, _, _, _, _, _, _, _, _, _, _, _, _, _, _, _, _, _, _, _, _, _, _, _, _, _, _, _, _, _, _, _, _, _, _, _, _, _, _, _, _, _, _, _, _, _, _, _, _, _, _], defers := _ } _
        refine wpAnyH_take (i := 1) (v := .int .i64 (k : Int)) rfl (by kernel_rfl) (by kernel_rfl) (by kernel_rfl) (fun _ _ _ h => h) (Or.inl ⟨by rfl, ?_⟩) H ?_
        · intro w' hSw; go_simp
        change wpAnyH _ _ _ _ _ _ _ { tmps := #[_, _, _, _, _, _, _, _, _, _, _, _, _, _, _, _, _, _, _, _, _, _, _, _, _, _, _, _, _, _, _, _, _, _, _, _, _, _, _, _, _, _, _, _, _, _, _, _, _, _, _, _, _, _, _, _], defers := _ } _
        refine wpAnyH_take (i := 2) (v := .pointer (some ⟨w.heap.size + 1, k, none⟩)) rfl (by kernel_rfl) (by kernel_rfl) (by kernel_rfl) (fun _ _ _ h => h) (Or.inl ⟨by rfl, ?_⟩) H ?_
        · intro w' hSw; go_simp
        change wpAnyH _ _ _ _ _ _ _ { tmps := #[_, _, _, _, _, _, _, _, _, _, _, _, _, _, _, _, _, _, _, _, _, _, _, _, _, _, _, _, _, _, _, _, _, _, _, _, _, _, _, _, _, _, _, _, _, _, _, _, _, _, _, _, _, _, _, _], defers := _ } _
        refine wpAnyH_take (i := 3) (v := .string kt) rfl (by kernel_rfl) (by kernel_rfl) (by kernel_rfl) (fun _ _ _ h => h) (Or.inl ⟨by rfl, ?_⟩) H ?_
        · intro w' hSw; have t0 := CA.out _ hSw; clear hSw; go_simp
        change wpAnyH _ _ _ _ _ _ _ { tmps := #[_, _, _, _, _, _, _, _, _, _, _, _, _, _, _, _, _, _, _, _, _, _, _, _, _, _, _, _, _, _, _, _, _, _, _, _, _, _, _, _, _, _, _, _, _, _, _, _, _, _, _, _, _, _, _, _], defers := _ } _
        refine wpAnyH_take (i := 4) (v := .slice (some ⟨g, 0, none⟩) q c) rfl (by kernel_rfl) (by kernel_rfl) (by kernel_rfl) (fun _ _ _ h => h) (Or.inl ⟨by rfl, ?_⟩) H ?_
        · intro w' hSw; go_simp
        change wpAnyH _ _ _ _ _ _ _ { tmps := #[_, _, _, _, _, _, _, _, _, _, _, _, _, _, _, _, _, _, _, _, _, _, _, _, _, _, _, _, _, _, _, _, _, _, _, _, _, _, _, _, _, _, _, _, _, _, _, _, _, _, _, _, _, _, _, _], defers := _ } _
        refine wpAnyH_take (i := 5) (v := .pointer (some ⟨g, 0, none⟩)) rfl (by kernel_rfl) (by kernel_rfl) (by kernel_rfl) (fun _ _ _ h => h) (Or.inl ⟨by rfl, ?_⟩) H ?_
        · intro w' hSw; go_simp
        change wpAnyH _ _ _ _ _ _ _ { tmps := #[_, _, _, _, _, _, _, _, _, _, _, _, _, _, _, _, _, _, _, _, _, _, _, _, _, _, _, _, _, _, _, _, _, _, _, _, _, _, _, _, _, _, _, _, _, _, _, _, _, _, _, _, _, _, _, _], defers := _ } _
        refine wpAnyH_take (i := 6) (v := .string t) rfl (by kernel_rfl) (by kernel_rfl) (by kernel_rfl) (fun _ _ _ h => h) (Or.inl ⟨by rfl, ?_⟩) H ?_
        · intro w' hSw; have t0 := CB.out _ hSw; clear hSw; go_simp
        change wpAnyH _ _ _ _ _ _ _ { tmps := #[_, _, _, _, _, _, _, _, _, _, _, _, _, _, _, _, _, _, _, _, _, _, _, _, _, _, _, _, _, _, _, _, _, _, _, _, _, _, _, _, _, _, _, _, _, _, _, _, _, _, _, _, _, _, _, _], defers := _ } _
        refine wpAnyH_take (i := 7) (v := .bool true) rfl (by kernel_rfl) (by kernel_rfl) (by kernel_rfl) (fun _ _ _ h => h) (Or.inl ⟨by rfl, ?_⟩) H ?_
        · intro w' hSw; go_simp
        change wpAnyH _ _ _ _ _ _ _ { tmps := #[_, _, _, _, _, _, _, _, _, _, _, _, _, _, _, _, _, _, _, _, _, _, _, _, _, _, _, _, _, _, _, _, _, _, _, _, _, _, _, _, _, _, _, _, _, _, _, _, _, _, _, _, _, _, _, _], defers := _ } _
        refine wpAnyH_take (i := 8) (v := .bool true) rfl (by kernel_rfl) (by kernel_rfl) (by kernel_rfl) (fun _ _ _ h => h) (Or.inl ⟨by rfl, ?_⟩) H ?_
        · intro w' hSw; go_simp
        change wpAnyH _ _ _ _ _ _ _ { tmps := #[_, _, _, _, _, _, _, _, _, _, _, _, _, _, _, _, _, _, _, _, _, _, _, _, _, _, _, _, _, _, _, _, _, _, _, _, _, _, _, _, _, _, _, _, _, _, _, _, _, _, _, _, _, _, _, _], defers := _ } _
        refine wpAnyH_take (i := 9) (v := .slice (some ⟨w.heap.size + 1, 0, none⟩) 7 7) rfl (by kernel_rfl) (by kernel_rfl) (by kernel_rfl) (fun _ _ _ h => h) (Or.inl ⟨by rfl, ?_⟩) H ?_
        · intro w' hSw; go_simp
        change wpAnyH _ _ _ _ _ _ _ { tmps := #[_, _, _, _, _, _, _, _, _, _, _, _, _, _, _, _, _, _, _, _, _, _, _, _, _, _, _, _, _, _, _, _, _, _, _, _, _, _, _, _, _, _, _, _, _, _, _, _, _, _, _, _, _, _, _, _], defers := _ } _
        refine wpAnyH_take (i := 10) (v := .int .i64 (k : Int)) rfl (by kernel_rfl) (by kernel_rfl) (by kernel_rfl) (fun _ _ _ h => h) (Or.inl ⟨by rfl, ?_⟩) H ?_
        · intro w' hSw; go_simp
        change wpAnyH _ _ _ _ _ _ _ { tmps := #[_, _, _, _, _, _, _, _, _, _, _, _, _, _, _, _, _, _, _, _, _, _, _, _, _, _, _, _, _, _, _, _, _, _, _, _, _, _, _, _, _, _, _, _, _, _, _, _, _, _, _, _, _, _, _, _], defers := _ } _
        refine wpAnyH_take (i := 11) (v := .pointer (some ⟨w.heap.size + 1, k, none⟩)) rfl (by kernel_rfl) (by kernel_rfl) (by kernel_rfl) (fun _ _ _ h => h) (Or.inl ⟨by rfl, ?_⟩) H ?_
        · intro w' hSw; go_simp
        change wpAnyH _ _ _ _ _ _ _ { tmps := #[_, _, _, _, _, _, _, _, _, _, _, _, _, _, _, _, _, _, _, _, _, _, _, _, _, _, _, _, _, _, _, _, _, _, _, _, _, _, _, _, _, _, _, _, _, _, _, _, _, _, _, _, _, _, _, _], defers := _ } _
        refine wpAnyH_take (i := 12) (v := .string kt) rfl (by kernel_rfl) (by kernel_rfl) (by kernel_rfl) (fun _ _ _ h => h) (Or.inl ⟨by rfl, ?_⟩) H ?_
        · intro w' hSw; have t0 := CA.out _ hSw; clear hSw; go_simp
        change wpAnyH _ _ _ _ _ _ _ { tmps := #[_, _, _, _, _, _, _, _, _, _, _, _, _, _, _, _, _, _, _, _, _, _, _, _, _, _, _, _, _, _, _, _, _, _, _, _, _, _, _, _, _, _, _, _, _, _, _, _, _, _, _, _, _, _, _, _], defers := _ } _
        refine wpAnyH_take (i := 13) (v := .bool true) rfl (by kernel_rfl) (by kernel_rfl) (by kernel_rfl) (fun _ _ _ h => h) (Or.inl ⟨by rfl, ?_⟩) H ?_
        · intro w' hSw; go_simp
        change wpAnyH _ _ _ _ _ _ _ { tmps := #[_, _, _, _, _, _, _, _, _, _, _, _, _, _, _, _, _, _, _, _, _, _, _, _, _, _, _, _, _, _, _, _, _, _, _, _, _, _, _, _, _, _, _, _, _, _, _, _, _, _, _, _, _, _, _, _], defers := _ } _
        refine wpAnyH_take (i := 14) (v := .bool true) rfl (by kernel_rfl) (by kernel_rfl) (by kernel_rfl) (fun _ _ _ h => h) (Or.inl ⟨by rfl, ?_⟩) H ?_
        · intro w' hSw; go_simp
        change wpAnyH _ _ _ _ _ _ _ { tmps := #[_, _, _, _, _, _, _, _, _, _, _, _, _, _, _, _, _, _, _, _, _, _, _, _, _, _, _, _, _, _, _, _, _, _, _, _, _, _, _, _, _, _, _, _, _, _, _, _, _, _, _, _, _, _, _, _], defers := _ } _
        refine wpAnyH_done (by kernel_rfl) ?_ _
        refine NoPanic.normal ?_
        have B4 : Hid (Below w2.heap.size w2 y0) := B2.out.trans (H.mono B2.out.size)
        have V4 : Hid (VaB y0 w.heap.size 0 0 clZ) := V3.out.below H
        have A4 : Hid (Below w.heap.size w y0) := A3.out.trans (H.mono A3.out.size)
        clear H CA CB V3 A3 B2 L3 A2
        change Exit.then _ _ Exit.normal { tmps := #[_, _, _, _, _, _, _, _, _, _, _, _, _, _, _, _, _, _, _, _, _, _, _, _, _, _, _, _, _, _, _, _, _, _, _, _, _, _, _, _, _, _, _, _, _, _, _, _, _, _, _, _, _, _, _, _], defers := _ } _
        obtain ⟨v0, v1, v2, v3, v4, v5, v6, v7, v8, v9, v10, v11, v12, v13⟩ := V4.out.c
        have f0 := V4.out.fr
        go_wp2
        change bodyPost _ _ _ .ret _ (World.setCells y0 w.heap.size 0 (vaL k 0 clZ))
        exact ret_cell2 (b := w.heap.size) (v := vaV k 0 clZ) (x := .bool ((q : Int) == 1)) Tryd.results10 rfl rfl (V4.out.st k 0 clZ).load ⟨⟨k, 0, clZ, _, rfl, HL.out⟩, vaL_below A4.out (Nat.le_refl _) k 0 clZ⟩
      · have HN2 : Hid (∀ j, 1 ≤ j → j < k + 1 → kd j ≠ wT s 0) := fun j h1 h2 => by
          rcases Nat.lt_or_ge j k with z | z
          · exact HN.out j h1 z
          · obtain rfl : j = k := by omega
            exact he
        have e1 : ((kd k).toList == (wT s 0).toList) = false := txtNe he
        clear he HN
        generalize kd k = kt at *
        obtain ⟨t, ht⟩ : ∃ t, wT s 0 = t := ⟨_, rfl⟩
        rw [ht] at CB e1 HT
        clear ht
        go_wp2_with fail
        have H : Below wr.heap.size wr wr.drew := (Below.refl _ _).drew
        refine wp_region_noPanic ?_
        refine wp_region_held_drew (S := fun w' => Below wr.heap.size wr w') (by kernel_rfl) H (fun _ => ?_)
        generalize wr.drew = y0 at *
        refine wpAnyH_take (i := 0) (v := .slice (some ⟨w.heap.size + 1, 0, none⟩) 7 7) rfl (by kernel_rfl) (by kernel_rfl) (by kernel_rfl) (fun _ _ _ h => h) (Or.inl ⟨by rfl, ?_⟩) H ?_
        · intro w' hSw; go_simp
        change wpAnyH _ _ _ _ _ _ _ { tmps := #[_, _, _, _, _, _, _, _, _, _, _, _, _, _, _, _, _, _, _, _, _, _, _, _, _, _, _, _, _, _, _, _, _, _, _, _, _, _, _, _, _, _, _, _, _, _, _, _, _, _, _, _, _, _, _, _], defers := _ } _
        refine wpAnyH_take (i := 1) (v := .int .i64 (k : Int)) rfl (by kernel_rfl) (by kernel_rfl) (by kernel_rfl) (fun _ _ _ h => h) (Or.inl ⟨by rfl, ?_⟩) H ?_
        · intro w' hSw; go_simp
        change wpAnyH _ _ _ _ _ _ _ { tmps := #[_, _, _, _, _, _, _, _, _, _, _, _, _, _, _, _, _, _, _, _, _, _, _, _, _, _, _, _, _, _, _, _, _, _, _, _, _, _, _, _, _, _, _, _, _, _, _, _, _, _, _, _, _, _, _, _], defers := _ } _
        refine wpAnyH_take (i := 2) (v := .pointer (some ⟨w.heap.size + 1, k, none⟩)) rfl (by kernel_rfl) (by kernel_rfl) (by kernel_rfl) (fun _ _ _ h => h) (Or.inl ⟨by rfl, ?_⟩) H ?_
        · intro w' hSw; go_simp
        change wpAnyH _ _ _ _ _ _ _ { tmps := #[_, _, _, _, _, _, _, _, _, _, _, _, _, _, _, _, _, _, _, _, _, _, _, _, _, _, _, _, _, _, _, _, _, _, _, _, _, _, _, _, _, _, _, _, _, _, _, _, _, _, _, _, _, _, _, _], defers := _ } _
        refine wpAnyH_take (i := 3) (v := .string kt) rfl (by kernel_rfl) (by kernel_rfl) (by kernel_rfl) (fun _ _ _ h => h) (Or.inl ⟨by rfl, ?_⟩) H ?_
        · intro w' hSw; have t0 := CA.out _ hSw; clear hSw; go_simp
        change wpAnyH _ _ _ _ _ _ _ { tmps := #[_, _, _, _, _, _, _, _, _, _, _, _, _, _, _, _, _, _, _, _, _, _, _, _, _, _, _, _, _, _, _, _, _, _, _, _, _, _, _, _, _, _, _, _, _, _, _, _, _, _, _, _, _, _, _, _], defers := _ } _
        refine wpAnyH_take (i := 4) (v := .slice (some ⟨g, 0, none⟩) q c) rfl (by kernel_rfl) (by kernel_rfl) (by kernel_rfl) (fun _ _ _ h => h) (Or.inl ⟨by rfl, ?_⟩) H ?_
        · intro w' hSw; go_simp
        change wpAnyH _ _ _ _ _ _ _ { tmps := #[_, _, _, _, _, _, _, _, _, _, _, _, _, _, _, _, _, _, _, _, _, _, _, _, _, _, _, _, _, _, _, _, _, _, _, _, _, _, _, _, _, _, _, _, _, _, _, _, _, _, _, _, _, _, _, _], defers := _ } _
        refine wpAnyH_take (i := 5) (v := .pointer (some ⟨g, 0, none⟩)) rfl (by kernel_rfl) (by kernel_rfl) (by kernel_rfl) (fun _ _ _ h => h) (Or.inl ⟨by rfl, ?_⟩) H ?_
        · intro w' hSw; go_simp
        change wpAnyH _ _ _ _ _ _ _ { tmps := #[_, _, _, _, _, _, _, _, _, _, _, _, _, _, _, _, _, _, _, _, _, _, _, _, _, _, _, _, _, _, _, _, _, _, _, _, _, _, _, _, _, _, _, _, _, _, _, _, _, _, _, _, _, _, _, _], defers := _ } _
        refine wpAnyH_take (i := 6) (v := .string t) rfl (by kernel_rfl) (by kernel_rfl) (by kernel_rfl) (fun _ _ _ h => h) (Or.inl ⟨by rfl, ?_⟩) H ?_
        · intro w' hSw; have t0 := CB.out _ hSw; clear hSw; go_simp
        change wpAnyH _ _ _ _ _ _ _ { tmps := #[_, _, _, _, _, _, _, _, _, _, _, _, _, _, _, _, _, _, _, _, _, _, _, _, _, _, _, _, _, _, _, _, _, _, _, _, _, _, _, _, _, _, _, _, _, _, _, _, _, _, _, _, _, _, _, _], defers := _ } _
        refine wpAnyH_take (i := 7) (v := .bool false) rfl (by kernel_rfl) (by kernel_rfl) (by kernel_rfl) (fun _ _ _ h => h) (Or.inl ⟨by rfl, ?_⟩) H ?_
        · intro w' hSw; go_simp
        change wpAnyH _ _ _ _ _ _ _ { tmps := #[_, _, _, _, _, _, _, _, _, _, _, _, _, _, _, _, _, _, _, _, _, _, _, _, _, _, _, _, _, _, _, _, _, _, _, _, _, _, _, _, _, _, _, _, _, _, _, _, _, _, _, _, _, _, _, _], defers := _ } _
        refine wpAnyH_take (i := 8) (v := .bool false) rfl (by kernel_rfl) (by kernel_rfl) (by kernel_rfl) (fun _ _ _ h => h) (Or.inl ⟨by rfl, ?_⟩) H ?_
        · intro w' hSw; go_simp
        change wpAnyH _ _ _ _ _ _ _ { tmps := #[_, _, _, _, _, _, _, _, _, _, _, _, _, _, _, _, _, _, _, _, _, _, _, _, _, _, _, _, _, _, _, _, _, _, _, _, _, _, _, _, _, _, _, _, _, _, _, _, _, _, _, _, _, _, _, _], defers := _ } _
        refine wpAnyH_take (i := 9) (v := undef) rfl (by kernel_rfl) (by kernel_rfl) (by kernel_rfl) (fun _ _ _ h => h) (Or.inr ⟨by rfl, rfl⟩) H ?_
        change wpAnyH _ _ _ _ _ _ _ { tmps := #[_, _, _, _, _, _, _, _, _, _, _, _, _, _, _, _, _, _, _, _, _, _, _, _, _, _, _, _, _, _, _, _, _, _, _, _, _, _, _, _, _, _, _, _, _, _, _, _, _, _, _, _, _, _, _, _], defers := _ } _
        refine wpAnyH_take (i := 10) (v := undef) rfl (by kernel_rfl) (by kernel_rfl) (by kernel_rfl) (fun _ _ _ h => h) (Or.inr ⟨by rfl, rfl⟩) H ?_
        change wpAnyH _ _ _ _ _ _ _ { tmps := #[_, _, _, _, _, _, _, _, _, _, _, _, _, _, _, _, _, _, _, _, _, _, _, _, _, _, _, _, _, _, _, _, _, _, _, _, _, _, _, _, _, _, _, _, _, _, _, _, _, _, _, _, _, _, _, _], defers := _ } _
        refine wpAnyH_take (i := 11) (v := undef) rfl (by kernel_rfl) (by kernel_rfl) (by kernel_rfl) (fun _ _ _ h => h) (Or.inr ⟨by rfl, rfl⟩) H ?_
        change wpAnyH _ _ _ _ _ _ _ { tmps := #[_, _, _, _, _, _, _, _, _, _, _, _, _, _, _, _, _, _, _, _, _, _, _, _, _, _, _, _, _, _, _, _, _, _, _, _, _, _, _, _, _, _, _, _, _, _, _, _, _, _, _, _, _, _, _, _], defers := _ } _
        refine wpAnyH_take (i := 12) (v := undef) rfl (by kernel_rfl) (by kernel_rfl) (by kernel_rfl) (fun _ _ _ h => h) (Or.inr ⟨by rfl, rfl⟩) H ?_
        change wpAnyH _ _ _ _ _ _ _ { tmps := #[_, _, _, _, _, _, _, _, _, _, _, _, _, _, _, _, _, _, _, _, _, _, _, _, _, _, _, _, _, _, _, _, _, _, _, _, _, _, _, _, _, _, _, _, _, _, _, _, _, _, _, _, _, _, _, _], defers := _ } _
        refine wpAnyH_take (i := 13) (v := undef) rfl (by kernel_rfl) (by kernel_rfl) (by kernel_rfl) (fun _ _ _ h => h) (Or.inr ⟨by rfl, rfl⟩) H ?_
        change wpAnyH _ _ _ _ _ _ _ { tmps := #[_, _, _, _, _, _, _, _, _, _, _, _, _, _, _, _, _, _, _, _, _, _, _, _, _, _, _, _, _, _, _, _, _, _, _, _, _, _, _, _, _, _, _, _, _, _, _, _, _, _, _, _, _, _, _, _], defers := _ } _
        refine wpAnyH_take (i := 14) (v := .bool false) rfl (by kernel_rfl) (by kernel_rfl) (by kernel_rfl) (fun _ _ _ h => h) (Or.inl ⟨by rfl, ?_⟩) H ?_
        · intro w' hSw; go_simp
        change wpAnyH _ _ _ _ _ _ _ { tmps := #[_, _, _, _, _, _, _, _, _, _, _, _, _, _, _, _, _, _, _, _, _, _, _, _, _, _, _, _, _, _, _, _, _, _, _, _, _, _, _, _, _, _, _, _, _, _, _, _, _, _, _, _, _, _, _, _], defers := _ } _
        refine wpAnyH_done (by kernel_rfl) ?_ _
        refine NoPanic.normal ?_
        have B4 : Hid (Below w2.heap.size w2 y0) := B2.out.trans (H.mono B2.out.size)
        have V4 : Hid (VaB y0 w.heap.size 0 0 clZ) := V3.out.below H
        have A4 : Hid (Below w.heap.size w y0) := A3.out.trans (H.mono A3.out.size)
        clear H CA CB V3 A3 B2 L3 A2
        change Exit.then _ _ Exit.normal { tmps := #[_, _, _, _, _, _, _, _, _, _, _, _, _, _, _, _, _, _, _, _, _, _, _, _, _, _, _, _, _, _, _, _, _, _, _, _, _, _, _, _, _, _, _, _, _, _, _, _, _, _, _, _, _, _, _, _], defers := _ } _
        go_wp2
        go_roundw
        case rel => exact ⟨k + 1, by omega, by omega, by go_num, HN2.out, B4.out⟩
        case measure => first | (simp [intOf]; omega) | simp [intOf]
    · obtain rfl : k = 7 := by omega
      have hk' : ¬ ((7 : Nat) : Int) < 7 := by omega
      have k0 := HC.out wr A3.out 0 hq
      clear hk hk1 hk7 V2 A2 L2 B2 L3
      by_cases hcr : wT s 0 = ⟨#[99, 114, 97, 115, 104]⟩
      · have HL : Hid (lineA s = bif decide (1 < q) then none else some (3, 1, clZ)) := by
          show _ = _
          rw [lineA_at (i := 2) (by rw [hcr]; rfl), ansQ HW.out 2]
          rfl
        by_cases hq1 : q = 1
        · subst hq1
          rw [hcr] at k0
          clear hcr
          obtain ⟨v0, v1, v2, v3, v4, v5, v6, v7, v8, v9, v10, v11, v12, v13⟩ := V3.out.c
          have f0 := V3.out.fr
          go_wp2
          change bodyPost _ _ _ .ret _ (World.setCells wr w.heap.size 0 (vaL 3 1 clZ))
          exact ret_cell2 (b := w.heap.size) (v := vaV 3 1 clZ) (x := .bool true) Tryd.results10 rfl rfl (V3.out.st 3 1 clZ).load ⟨⟨3, 1, clZ, true, rfl, HL.out⟩, vaL_below A3.out (Nat.le_refl _) 3 1 clZ⟩
        · have hq2 : ((q : Int) == 1) = false := by rw [beq_eq_false_iff_ne]; omega
          have HX : Hid (¬ (wT s 0 = ⟨#[99, 114, 97, 115, 104]⟩ ∧ q = 1)) := fun h => hq1 h.2
          rw [hcr] at k0
          clear hcr hq1 HL
          go_wp2_with fail
          clear k0
          refine (sCall_any s hs q c g hq HW.out wr (Nat.lt_of_lt_of_le hg A3.out.size) HN.out HX.out (HC.out wr A3.out)).mono ?_
          rintro e w4 ⟨⟨x, ok, rfl, hL⟩, b4⟩
          have HL : Hid (lineA s = bif ok then some (2, 0, x) else none) := hL
          have V5 : Hid (VaB (w4.alloc (.cells #[.int .i64 x.k, .int .i64 x.a, .int .i64 x.n, .string x.p, .string x.o, .string x.d] 23)) w.heap.size 0 0 clZ) := (V3.out.below b4).below ((Below.refl _ _).alloc (Nat.le_refl _) _)
          have A5 : Hid (Below w.heap.size w (w4.alloc (.cells #[.int .i64 x.k, .int .i64 x.a, .int .i64 x.n, .string x.p, .string x.o, .string x.d] 23))) := (A3.out.trans (b4.mono A3.out.size)).alloc (Nat.le_trans A3.out.size b4.size) _
          have C5 : Hid (ClB (w4.alloc (.cells #[.int .i64 x.k, .int .i64 x.a, .int .i64 x.n, .string x.p, .string x.o, .string x.d] 23)) w4.heap.size x) := ClB.madeOf rfl
          have tok : True := trivial
          clear hL b4 V3 A3
          unfold clA
          go_wp2_with (show wpList _ _ _ ({ dst := some 53, op := _, type := _, pos := _, after := _, guard := _ } :: _) _ _; clear tok; generalize w4.alloc (.cells #[.int .i64 x.k, .int .i64 x.a, .int .i64 x.n, .string x.p, .string x.o, .string x.d] 23) = w5 at *; generalize w4.heap.size = p5 at *; obtain ⟨v0, v1, v2, v3, v4, v5, v6, v7, v8, v9, v10, v11, v12, v13⟩ := V5.out.c; have f0 := V5.out.fr; obtain ⟨c0, c1, c2, c3, c4, c5⟩ := C5.out.c)
          rename World => w5
          change bodyPost _ _ _ .ret _ (World.setCells w5 w.heap.size 0 (vaL 2 0 x))
          exact ret_cell2 (b := w.heap.size) (v := vaV 2 0 x) (x := .bool ok) Tryd.results10 rfl rfl (V5.out.st 2 0 x).load ⟨⟨2, 0, x, ok, rfl, HL.out⟩, vaL_below A5.out (Nat.le_refl _) 2 0 x⟩
      · have e1 : ((wT s 0).toList == [99, 114, 97, 115, 104]) = false := litNe (u := ⟨#[99, 114, 97, 115, 104]⟩) hcr
        have HX : Hid (¬ (wT s 0 = ⟨#[99, 114, 97, 115, 104]⟩ ∧ q = 1)) := fun h => hcr h.1
        clear hcr
        go_wp2_with fail
        clear k0
        refine (sCall_any s hs q c g hq HW.out wr (Nat.lt_of_lt_of_le hg A3.out.size) HN.out HX.out (HC.out wr A3.out)).mono ?_
        rintro e w4 ⟨⟨x, ok, rfl, hL⟩, b4⟩
        have HL : Hid (lineA s = bif ok then some (2, 0, x) else none) := hL
        have V5 : Hid (VaB (w4.alloc (.cells #[.int .i64 x.k, .int .i64 x.a, .int .i64 x.n, .string x.p, .string x.o, .string x.d] 23)) w.heap.size 0 0 clZ) := (V3.out.below b4).below ((Below.refl _ _).alloc (Nat.le_refl _) _)
        have A5 : Hid (Below w.heap.size w (w4.alloc (.cells #[.int .i64 x.k, .int .i64 x.a, .int .i64 x.n, .string x.p, .string x.o, .string x.d] 23))) := (A3.out.trans (b4.mono A3.out.size)).alloc (Nat.le_trans A3.out.size b4.size) _
        have C5 : Hid (ClB (w4.alloc (.cells #[.int .i64 x.k, .int .i64 x.a, .int .i64 x.n, .string x.p, .string x.o, .string x.d] 23)) w4.heap.size x) := ClB.madeOf rfl
        have tok : True := trivial
        clear hL b4 V3 A3
        unfold clA
        go_wp2_with (show wpList _ _ _ ({ dst := some 53, op := _, type := _, pos := _, after := _, guard := _ } :: _) _ _; clear tok; generalize w4.alloc (.cells #[.int .i64 x.k, .int .i64 x.a, .int .i64 x.n, .string x.p, .string x.o, .string x.d] 23) = w5 at *; generalize w4.heap.size = p5 at *; obtain ⟨v0, v1, v2, v3, v4, v5, v6, v7, v8, v9, v10, v11, v12, v13⟩ := V5.out.c; have f0 := V5.out.fr; obtain ⟨c0, c1, c2, c3, c4, c5⟩ := C5.out.c)
        rename World => w5
        change bodyPost _ _ _ .ret _ (World.setCells w5 w.heap.size 0 (vaL 2 0 x))
        exact ret_cell2 (b := w.heap.size) (v := vaV 2 0 x) (x := .bool ok) Tryd.results10 rfl rfl (V5.out.st 2 0 x).load ⟨⟨2, 0, x, ok, rfl, HL.out⟩, vaL_below A5.out (Nat.le_refl _) 2 0 x⟩
set_option maxRecDepth 100000 in
set_option maxHeartbeats 8000000 in
theorem specReadLine_any (s : ByteArray) (w : World) :
    Calls Tryd.prog 4 #[.string s] w fun e w' => e = .returned (.tuple #[lineV s, .int .i64 (lineC s)]) ∧ Below w.heap.size w w' := by
  go_enter Tryd.func4, Tryd.ntmps4
  by_cases hl : s.size ≤ 65536
  · have hl1 : ¬ (65536 : Int) < (s.size : Int) := by omega
    have V1 : Hid (VaB (w.alloc (.cells #[.int .i64 0, .int .i64 0, .int .i64 0, .int .i64 0, .int .i64 0, .int .i64 0, .string ⟨#[]⟩, .string ⟨#[]⟩, .string ⟨#[]⟩, .string ⟨#[]⟩, .slice none 0 0, .int .i64 0, .bool false, .bool false] 26)) w.heap.size 0 0 clZ) := VaB.made rfl
    have A1 : Hid (Below w.heap.size w (w.alloc (.cells #[.int .i64 0, .int .i64 0, .int .i64 0, .int .i64 0, .int .i64 0, .int .i64 0, .string ⟨#[]⟩, .string ⟨#[]⟩, .string ⟨#[]⟩, .string ⟨#[]⟩, .slice none 0 0, .int .i64 0, .bool false, .bool false] 26))) := (Below.refl _ _).alloc (Nat.le_refl _) _
    go_wp2_with fail
    refine (l00Words_any s hl _).mono ?_
    rintro e w3 ⟨⟨a, q, c, rfl, ho, hW, hq⟩, hb⟩
    have V3 : Hid (VaB w3 w.heap.size 0 0 clZ) := V1.out.below hb
    have A3 : Hid (Below w.heap.size w w3) := A1.out.trans (hb.mono A1.out.size)
    have HW : Hid (WdN s q) := hW
    have HO : Hid (EO w3 (w.alloc (.cells #[.int .i64 0, .int .i64 0, .int .i64 0, .int .i64 0, .int .i64 0, .int .i64 0, .string ⟨#[]⟩, .string ⟨#[]⟩, .string ⟨#[]⟩, .string ⟨#[]⟩, .slice none 0 0, .int .i64 0, .bool false, .bool false] 26)).heap.size 9 1 (.slice a q c) q (pxF (wT s))) := ho
    have q0 : (q : Int) ≤ 65537 := by omega
    clear V1 A1 hb ho hW
    by_cases hq0 : q = 0
    · subst hq0
      have HL : Hid (lineA s = none) := by
        have h0 : wW s 0 = ⟨#[]⟩ := wT_out HW.out (Nat.le_refl 0)
        have hn : cmdI (wW s 0) = none := cmdI_no (fun i e => by
          rw [h0] at e
          exact no_empty i (List.getElem?_eq_some_iff.1 e).1 e)
        show _ = _
        rw [lineA, hn]; rfl
      obtain ⟨v0, v1, v2, v3, v4, v5, v6, v7, v8, v9, v10, v11, v12, v13⟩ := V3.out.c
      have f0 := V3.out.fr
      go_wp2
      change bodyPost _ _ _ .ret _ (World.setCells w3 w.heap.size 0 (vaL 0 0 clZ))
      refine ret_cell2 (b := w.heap.size) (v := vaV 0 0 clZ) (x := .int .i64 3) Tryd.results4 rfl rfl (V3.out.st 0 0 clZ).load ⟨?_, vaL_below A3.out (Nat.le_refl _) 0 0 clZ⟩
      rw [lineV, lineC, if_pos hl, if_pos hl, HL.out]
      rfl
    · have hq1 : ((q : Int) == 0) = false := by rw [beq_eq_false_iff_ne]; omega
      obtain ⟨g, hg, hge⟩ := HO.out.rowE
      obtain rfl := hg.a (by omega)
      have HC : Hid (∀ j, j < q → w3.cell? ⟨g, j, none⟩ = some (.string (wT s j))) := fun j hj => by
        have := hg.c j hj 0 (by omega)
        rw [show j * 1 + 0 = j by omega] at this
        exact this
      clear HO hg hge
      go_wp2_with fail
      refine (l15Read_any s hl q c g (by omega) (by omega) HW.out w3 (strBlock (HC.out 0 (by omega))) HC.out).mono ?_
      rintro e w4 ⟨⟨k, c, x, ok, rfl, hL⟩, b4⟩
      have HL : Hid (lineA s = bif ok then some (k, c, x) else none) := hL
      have V5 : Hid (VaB (w4.alloc (.cells #[.int .i64 k, .int .i64 0, .int .i64 c, .int .i64 x.k, .int .i64 x.a, .int .i64 x.n, .string x.p, .string x.o, .string x.d, .string ⟨#[]⟩, .slice none 0 0, .int .i64 0, .bool false, .bool false] 26)) w.heap.size 0 0 clZ) := (V3.out.below b4).below ((Below.refl _ _).alloc (Nat.le_refl _) _)
      have A5 : Hid (Below w.heap.size w (w4.alloc (.cells #[.int .i64 k, .int .i64 0, .int .i64 c, .int .i64 x.k, .int .i64 x.a, .int .i64 x.n, .string x.p, .string x.o, .string x.d, .string ⟨#[]⟩, .slice none 0 0, .int .i64 0, .bool false, .bool false] 26))) := (A3.out.trans (b4.mono A3.out.size)).alloc (Nat.le_trans A3.out.size b4.size) _
      have C5 : Hid (VaB (w4.alloc (.cells #[.int .i64 k, .int .i64 0, .int .i64 c, .int .i64 x.k, .int .i64 x.a, .int .i64 x.n, .string x.p, .string x.o, .string x.d, .string ⟨#[]⟩, .slice none 0 0, .int .i64 0, .bool false, .bool false] 26)) w4.heap.size k c x) := VaB.madeOf k c x rfl
      have tok : True := trivial
      clear hL b4 V3 A3 HC
      unfold vaV
      cases ok with
      | true =>
        go_wp2_with (show wpList _ _ _ ({ dst := some 24, op := _, type := _, pos := _, after := _, guard := _ } :: _) _ _; clear tok; generalize w4.alloc (.cells #[.int .i64 k, .int .i64 0, .int .i64 c, .int .i64 x.k, .int .i64 x.a, .int .i64 x.n, .string x.p, .string x.o, .string x.d, .string ⟨#[]⟩, .slice none 0 0, .int .i64 0, .bool false, .bool false] 26) = w5 at *; generalize w4.heap.size = p5 at *; obtain ⟨v0, v1, v2, v3, v4, v5, v6, v7, v8, v9, v10, v11, v12, v13⟩ := V5.out.c; have f0 := V5.out.fr; obtain ⟨u0, u1, u2, u3, u4, u5, u6, u7, u8, u9, u10, u11, u12, u13⟩ := C5.out.c)
        rename World => w5
        change bodyPost _ _ _ .ret _ (World.setCells w5 w.heap.size 0 (vaL k c x))
        refine ret_cell2 (b := w.heap.size) (v := vaV k c x) (x := .int .i64 0) Tryd.results4 rfl rfl (V5.out.st k c x).load ⟨?_, vaL_below A5.out (Nat.le_refl _) k c x⟩
        rw [lineV, lineC, if_pos hl, if_pos hl, HL.out]
        rfl
      | false =>
        go_wp2_with (show wpList _ _ _ ({ dst := some 24, op := _, type := _, pos := _, after := _, guard := _ } :: _) _ _; clear tok; generalize w4.alloc (.cells #[.int .i64 k, .int .i64 0, .int .i64 c, .int .i64 x.k, .int .i64 x.a, .int .i64 x.n, .string x.p, .string x.o, .string x.d, .string ⟨#[]⟩, .slice none 0 0, .int .i64 0, .bool false, .bool false] 26) = w5 at *; generalize w4.heap.size = p5 at *; obtain ⟨v0, v1, v2, v3, v4, v5, v6, v7, v8, v9, v10, v11, v12, v13⟩ := V5.out.c; have f0 := V5.out.fr)
        rename World => w5
        change bodyPost _ _ _ .ret _ (World.setCells w5 w.heap.size 0 (vaL 0 0 clZ))
        refine ret_cell2 (b := w.heap.size) (v := vaV 0 0 clZ) (x := .int .i64 3) Tryd.results4 rfl rfl (V5.out.st 0 0 clZ).load ⟨?_, vaL_below A5.out (Nat.le_refl _) 0 0 clZ⟩
        rw [lineV, lineC, if_pos hl, if_pos hl, HL.out]
        rfl
  · have hl1 : (65536 : Int) < (s.size : Int) := by omega
    go_wp2
    refine ret_cell2 (b := w.heap.size) (v := vaV 0 0 clZ) (x := .int .i64 2) Tryd.results4 rfl rfl (VaB.made rfl).load ⟨?_, (Below.refl _ _).alloc (Nat.le_refl _) _⟩
    rw [lineV, lineC, if_neg hl, if_neg hl]
    rfl
end Go.Proofs.YthebbijbedffpaaDoor
