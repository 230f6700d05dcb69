/-
  The iterator below, told of the files by their places (so that a round knows that its file is one of them).
-/
import Derived.Test.YtglfhajfbdjjcaaBelowI
namespace Go.Proofs.Ytglfhajfbdjjcaa
open Go.ChangeShapes Go.WideShapes Go.ChangeAt Go.RowKit
set_option linter.unusedVariables false
open Classical in
/-- The places of the files below, of the first k. -/
noncomputable def blwN (F : Nat → Fi) (h : ByteArray) (n : Nat) : Nat → List {i : Nat // i < n}
  | 0 => []
  | k + 1 => blwN F h n k ++ (if hk : k < n then (if HasPre (F k).p h then [⟨k, hk⟩] else []) else [])
theorem blwN_yes {F : Nat → Fi} {h : ByteArray} {n k : Nat} (hk : k < n) (p : HasPre (F k).p h) : blwN F h n (k + 1) = blwN F h n k ++ [⟨k, hk⟩] := by
  rw [blwN, dif_pos hk, if_pos p]
theorem blwN_no {F : Nat → Fi} {h : ByteArray} {n k : Nat} (p : ¬ HasPre (F k).p h) : blwN F h n (k + 1) = blwN F h n k := by
  by_cases hk : k < n
  · rw [blwN, dif_pos hk, if_neg p, List.append_nil]
  · rw [blwN, dif_neg hk, List.append_nil]
theorem blwN_pre (F : Nat → Fi) (h : ByteArray) (n k : Nat) : ∀ m, blwN F h n k <+: blwN F h n (k + m)
  | 0 => List.prefix_refl _
  | m + 1 => (blwN_pre F h n k m).trans ⟨_, rfl⟩
def encN (F : Nat → Fi) (h : ByteArray) (n : Nat) (x : {i : Nat // i < n}) : Array Value := encB ((F x.1).p.extract h.size (F x.1).p.size, F x.1)
set_option maxRecDepth 100000 in
set_option maxHeartbeats 4000000 in
theorem below_stopsN (Q : Nat → Prop) (Bp Bl : Nat) (a : Option Addr) (n c : Nat) (F : Nat → Fi) (q : ByteArray) (w : World) (m : Nat) (hp : w.cell? ⟨Bp, 0, none⟩ = some (.string q)) (hl : w.cell? ⟨Bl, 0, none⟩ = some (.slice a n c)) (hE : Els w 3 a n (fiF F)) (hQp : Q Bp) (hQl : Q Bl) (hQa : 0 < n → ∀ p, a = some p → Q p.block) (hn : n ≤ 4096) (hqs : q.size ≤ 40) (hQw : ∀ g, Q g → g < w.heap.size) :
    SeqStopsK Fence.wide m Try.prog 93 #[.pointer (some ⟨Bp, 0, none⟩), .pointer (some ⟨Bl, 0, none⟩)] (encN F (aheadT q) n) (KpQ Q) (fun xs => xs = blwN F (aheadT q) n n) (fun pre => pre <+: blwN F (aheadT q) n n) (blwN F (aheadT q) n n).length w := fun l J Jx W hW hJ hJx hY h0 => by
  have hp' : W.cell? ⟨Bp, 0, none⟩ = some (.string q) := by rw [hW.cell (p := ⟨Bp, 0, none⟩) (strBlock hp)]; exact hp
  have hl' : W.cell? ⟨Bl, 0, none⟩ = some (.slice a n c) := by rw [hW.cell (p := ⟨Bl, 0, none⟩) (strBlock hl)]; exact hl
  have HE : Hid (Els W 3 a n (fiF F)) := hE.below hW
  have HC : Hid (∀ (s t : ByteArray) (w : World), CallsIn Fence.wide (m - 1) Try.prog 94 #[.string s, .string t] w fun e w' => CutP s t e ∧ w' = w) := fun s t w => callsIn_wide.2 (cutPre_any s t w)
  obtain ⟨ah, hah⟩ : ∃ x, x = aheadT q := ⟨_, rfl⟩
  have HAH : Hid (ah = aheadT q) := hah
  rw [← hah] at hY ⊢
  clear hp hl hE hah
  have hqa : q.size + 1 ≤ 9223372036854775807 := by omega
  have hqb : ¬ 9223372036854775807 < q.size + 1 := by omega
  rcases Nat.eq_zero_or_pos q.size with hz | hz
  · obtain rfl : q = ⟨#[]⟩ := ByteArray.ext (Array.eq_empty_of_size_eq_zero hz)
    obtain rfl : ⟨#[]⟩ = ah := by rw [HAH.out]; rfl
    clear HAH hz
    refine callsIn_of_wp Try.func93 rfl trivial ?_ rfl
    simp only [Try.ntmps93, List.size_toArray, List.length_cons, List.length_nil, Nat.reduceAdd, Nat.reduceSub, Array.replicate_succ, Array.replicate_zero, List.push_toArray, List.append_toArray, List.nil_append, List.cons_append]
    gi_wp2
    gi_loopw [15] (fun i wr => ∃ k : Nat, k ≤ n ∧ i = .int .i64 k ∧ J (blwN F (⟨#[]⟩ : ByteArray) n k) wr ∧ KpQ Q W wr) (fun i _ => n - (intOf i).toNat)
    case atStart => exact ⟨0, by omega, rfl, h0, KpQ.refl _ _⟩
    case round =>
      obtain ⟨k, hk, rfl, hJs, hkp⟩ := hrel
      have HK : Hid (KpQ Q W wr) := hkp
      by_cases hlt : k < n
      · have hlt' : (k : Int) < (n : Int) := by omega
        obtain ⟨b, off, ha, hc⟩ := (hkp.els HE.out hQa).opened (by omega)
        cases ha
        obtain ⟨c0, c1, c2⟩ := Els.fiC hc k hlt
        have HF : Hid (HasPre (F k).p (⟨#[]⟩ : ByteArray) → blwN F (⟨#[]⟩ : ByteArray) n (k + 1) = blwN F (⟨#[]⟩ : ByteArray) n k ++ [⟨k, hlt⟩]) := fun p => blwN_yes hlt p
        have HEN : Hid (encN F (⟨#[]⟩ : ByteArray) n ⟨k, hlt⟩ = encB ((F k).p.extract (⟨#[]⟩ : ByteArray).size (F k).p.size, F k)) := rfl
        have HG : Hid (¬ HasPre (F k).p (⟨#[]⟩ : ByteArray) → blwN F (⟨#[]⟩ : ByteArray) n (k + 1) = blwN F (⟨#[]⟩ : ByteArray) n k) := fun p => blwN_no p
        have HPr : Hid (blwN F (⟨#[]⟩ : ByteArray) n (k + 1) <+: blwN F (⟨#[]⟩ : ByteArray) n n) := by have := blwN_pre F (⟨#[]⟩ : ByteArray) n (k + 1) (n - (k + 1)); rwa [show k + 1 + (n - (k + 1)) = n by omega] at this
        generalize hy0 : F k = y at *
        clear hy0
        obtain ⟨yp, yd, yt⟩ := y
        dsimp only at *
        clear hc
        obtain ⟨v, hv⟩ : ∃ v, v = wr.alloc (.cells #[.string yp, .bool yd, .string yt] 33) := ⟨_, rfl⟩
        have hJv : J (blwN F (⟨#[]⟩ : ByteArray) n k) v := by rw [hv]; exact hJ _ wr _ none hJs (World.grownBy_alloc _ _ _) (fun r e => by cases e)
        have XB : Box3 v wr.heap.size 33 (.string yp) (.bool yd) (.string yt) := by rw [hv]; exact Box3.made _ _ _ _ _
        have KV : Hid (KpQ Q W v) := HK.out.tr (by rw [hv]; exact ⟨by simp, fun g hg => Below.heap_alloc _ _ _ (by have := hQw g hg; have := HK.out.size; have := hW.size; omega)⟩)
        have HV : Hid (wr.alloc (.cells #[.string yp, .bool yd, .string yt] 33) = v) := hv.symm
        have t0 := XB.c0
        have t1 := XB.c1
        have t2 := XB.c2
        clear hv hJs XB
        gi_wp2_with fail
        rw [HV.out]
        refine ⟨trivial, fun h => by (cases h), (HC.out _ _ _).mono ?_⟩
        rintro e w' ⟨hcp, rfl⟩
        clear HV c0 c1 c2
        rcases hcp with ⟨hpre, rfl⟩ | ⟨hpre, rfl⟩
        · have hb1 := HF.out hpre
          have hlen : (blwN F (⟨#[]⟩ : ByteArray) n k).length < (blwN F (⟨#[]⟩ : ByteArray) n n).length := by
            have := HPr.out.length_le
            rw [hb1, List.length_append] at this
            simp at this
            omega
          obtain ⟨fn, tmps, assign, body, hy, hR⟩ := hY (blwN F (⟨#[]⟩ : ByteArray) n k) ⟨k, hlt⟩ w' hJv hlen
          rw [HEN.out] at hy
          dsimp only [encB] at hy
          rw [show (⟨#[]⟩ : ByteArray).size = 0 from rfl, ByteArray.extract_zero_size] at hy
          have HB1 : Hid (blwN F (⟨#[]⟩ : ByteArray) n (k + 1) = blwN F (⟨#[]⟩ : ByteArray) n k ++ [⟨k, hlt⟩]) := hb1
          clear hpre hb1 HF HG
          gi_wp2
          refine ⟨fun h => by (cases h), hR.mono ?_⟩
          rintro e W3 (⟨rfl, hJ3, hk3⟩ | ⟨rfl, hJx3⟩)
          · rw [← HB1.out] at hJ3
            have K3 : Hid (KpQ Q W W3) := KV.out.tr hk3
            clear hk3
            gi_wp2
            go_roundw
            case rel => exact ⟨k + 1, by omega, by go_num, hJ3, K3.out⟩
            case measure => simp [intOf]; omega
          · rw [← HB1.out] at hJx3
            gi_wp2
            refine bodyPost_ret (results_none rfl _ _ _) rfl ?_
            exact ⟨⟨_, rfl⟩, .inr ⟨_, HPr.out, hJx3⟩⟩
        · have hb1 := HG.out hpre
          rw [← hb1] at hJv
          clear hpre hb1 HF HG
          gi_wp2
          refine ⟨fun _ h => (by cases h), ?_⟩
          gi_wp2
          go_roundw
          case rel => exact ⟨k + 1, by omega, by go_num, hJv, KV.out⟩
          case measure => simp [intOf]; omega
      · obtain rfl : k = n := by omega
        have hlt' : ¬ (k : Int) < (k : Int) := by omega
        gi_wp2
        go_end0
        exact ⟨⟨_, rfl⟩, .inl hJs⟩
  · have g1 : (q.toList == []) = false := textEmpty hz
    have g2 : q.toList.isEmpty = false := textEmpty2 hz
    have hah : q ++ ⟨#[47]⟩ = ah := by rw [HAH.out]; unfold aheadT; rw [if_neg (by omega)]
    clear HAH hz
    refine callsIn_of_wp Try.func93 rfl trivial ?_ rfl
    simp only [Try.ntmps93, List.size_toArray, List.length_cons, List.length_nil, Nat.reduceAdd, Nat.reduceSub, Array.replicate_succ, Array.replicate_zero, List.push_toArray, List.append_toArray, List.nil_append, List.cons_append]
    gi_wp2
    gi_loopw [15] (fun i wr => ∃ k : Nat, k ≤ n ∧ i = .int .i64 k ∧ J (blwN F ah n k) wr ∧ KpQ Q W wr) (fun i _ => n - (intOf i).toNat)
    case atStart => exact ⟨0, by omega, rfl, h0, KpQ.refl _ _⟩
    case round =>
      obtain ⟨k, hk, rfl, hJs, hkp⟩ := hrel
      have HK : Hid (KpQ Q W wr) := hkp
      by_cases hlt : k < n
      · have hlt' : (k : Int) < (n : Int) := by omega
        obtain ⟨b, off, ha, hc⟩ := (hkp.els HE.out hQa).opened (by omega)
        cases ha
        obtain ⟨c0, c1, c2⟩ := Els.fiC hc k hlt
        have HF : Hid (HasPre (F k).p ah → blwN F ah n (k + 1) = blwN F ah n k ++ [⟨k, hlt⟩]) := fun p => blwN_yes hlt p
        have HEN : Hid (encN F ah n ⟨k, hlt⟩ = encB ((F k).p.extract ah.size (F k).p.size, F k)) := rfl
        have HG : Hid (¬ HasPre (F k).p ah → blwN F ah n (k + 1) = blwN F ah n k) := fun p => blwN_no p
        have HPr : Hid (blwN F ah n (k + 1) <+: blwN F ah n n) := by have := blwN_pre F ah n (k + 1) (n - (k + 1)); rwa [show k + 1 + (n - (k + 1)) = n by omega] at this
        generalize hy0 : F k = y at *
        clear hy0
        obtain ⟨yp, yd, yt⟩ := y
        dsimp only at *
        clear hc
        obtain ⟨v, hv⟩ : ∃ v, v = wr.alloc (.cells #[.string yp, .bool yd, .string yt] 33) := ⟨_, rfl⟩
        have hJv : J (blwN F ah n k) v := by rw [hv]; exact hJ _ wr _ none hJs (World.grownBy_alloc _ _ _) (fun r e => by cases e)
        have XB : Box3 v wr.heap.size 33 (.string yp) (.bool yd) (.string yt) := by rw [hv]; exact Box3.made _ _ _ _ _
        have KV : Hid (KpQ Q W v) := HK.out.tr (by rw [hv]; exact ⟨by simp, fun g hg => Below.heap_alloc _ _ _ (by have := hQw g hg; have := HK.out.size; have := hW.size; omega)⟩)
        have HV : Hid (wr.alloc (.cells #[.string yp, .bool yd, .string yt] 33) = v) := hv.symm
        have t0 := XB.c0
        have t1 := XB.c1
        have t2 := XB.c2
        clear hv hJs XB
        gi_wp2_with fail
        rw [HV.out]
        refine ⟨trivial, fun h => by (cases h), (HC.out _ _ _).mono ?_⟩
        rintro e w' ⟨hcp, rfl⟩
        clear HV c0 c1 c2
        rcases hcp with ⟨hpre, rfl⟩ | ⟨hpre, rfl⟩
        · have hb1 := HF.out hpre
          have hlen : (blwN F ah n k).length < (blwN F ah n n).length := by
            have := HPr.out.length_le
            rw [hb1, List.length_append] at this
            simp at this
            omega
          obtain ⟨fn, tmps, assign, body, hy, hR⟩ := hY (blwN F ah n k) ⟨k, hlt⟩ w' hJv hlen
          rw [HEN.out] at hy
          dsimp only [encB] at hy
          have HB1 : Hid (blwN F ah n (k + 1) = blwN F ah n k ++ [⟨k, hlt⟩]) := hb1
          clear hpre hb1 HF HG
          gi_wp2
          refine ⟨fun h => by (cases h), hR.mono ?_⟩
          rintro e W3 (⟨rfl, hJ3, hk3⟩ | ⟨rfl, hJx3⟩)
          · rw [← HB1.out] at hJ3
            have K3 : Hid (KpQ Q W W3) := KV.out.tr hk3
            clear hk3
            gi_wp2
            go_roundw
            case rel => exact ⟨k + 1, by omega, by go_num, hJ3, K3.out⟩
            case measure => simp [intOf]; omega
          · rw [← HB1.out] at hJx3
            gi_wp2
            refine bodyPost_ret (results_none rfl _ _ _) rfl ?_
            exact ⟨⟨_, rfl⟩, .inr ⟨_, HPr.out, hJx3⟩⟩
        · have hb1 := HG.out hpre
          rw [← hb1] at hJv
          clear hpre hb1 HF HG
          gi_wp2
          refine ⟨fun _ h => (by cases h), ?_⟩
          gi_wp2
          go_roundw
          case rel => exact ⟨k + 1, by omega, by go_num, hJv, KV.out⟩
          case measure => simp [intOf]; omega
      · obtain rfl : k = n := by omega
        have hlt' : ¬ (k : Int) < (k : Int) := by omega
        gi_wp2
        go_end0
        exact ⟨⟨_, rfl⟩, .inl hJs⟩
end Go.Proofs.Ytglfhajfbdjjcaa
