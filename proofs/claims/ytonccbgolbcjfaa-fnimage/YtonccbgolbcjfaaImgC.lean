/-
  Images cut into pieces: CutImage of the program and of the model.
-/
import Derived.Test.YtonccbgolbcjfaaImgM
import Derived.Test.YtonccbgolbcjfaaStrTo
import Derived.Test.YtonccbgolbcjfaaStrK
import Derived.Test.YtonccbgolbcjfaaTxE
import Derived.Test.YtonccbgolbcjfaaTxt
namespace Go.Proofs.Ytonccbgolbcjfaa
open Go.ChangeShapes Go.WideShapes Go.ChangeAt Go.RowKit
set_option linter.unusedVariables false
/-- Piece i of n bytes. -/
def pcT (f : Nat → Nat) (n i : Nat) : ByteArray := kstr f (64 * i) (min (64 * i + 64) n - 64 * i)
theorem u8_elemG : Try.prog.elem 22 = 5 := by kernel_rfl
theorem u8_underG : Try.prog.underlying 22 = some (.slice (Try.prog.elem 22)) := by rw [u8_elemG]; exact Try.underlying22
theorem u8_sizeOfG (w : World) : (sizeOf (Try.prog.elem 22)).run Try.prog w = .ok 1 w := by kernel_rfl
theorem cut_g {b off n c : Nat} (p q : Nat) (h1 : p < q) (h2 : q ≤ n) (hc : n ≤ c) (w : World) :
    (Instr.slice 22 (.slice (some ⟨b, off, none⟩) n c) (some (.int .i64 (p : Int))) (some (.int .i64 (q : Int))) none).run Try.prog w = .ok (.slice (some ⟨b, off + p, none⟩) (q - p) (c - p)) w := by
  rw [run_slice_lh (P := Try.prog) (w := w) 22 (some ⟨b, off, none⟩) n c u8_underG .i64 .i64 (p : Int) (q : Int) (by omega) (by omega) (by omega)]
  simp only [u8_sizeOfG, Result.andThen, sliced, Int.toNat_natCast]
  rw [if_neg (by omega)]
  simp [Go.WideShapes.add_plain]
theorem pc_conv {w : World} {b o n : Nat} {f : Nat → Nat} (h : Code8 w (some ⟨b, o, none⟩) n f) (k : Nat) (hk : 64 * k < n) (p q m x : Nat) (hp : p = 64 * k) (hq : q = min (64 * k + 64) n) (hm : m = q - p) :
    (convert 22 9 (.slice (some ⟨b, o + p, none⟩) m x)).run Try.prog w = .ok (.string (pcT f n k)) w := by
  subst hp hq hm
  have := kstr_of_code (c := x) ((h.shift (64 * k)).part (m := min (64 * k + 64) n - 64 * k) (by omega))
  rw [this]
  unfold pcT
  rw [kstr_congr (o := 0) (p := 64 * k) (L := f) (fun i hi => by rw [Nat.zero_add])]
set_option maxRecDepth 100000 in
set_option maxHeartbeats 2000000 in
theorem implCut_ok (b o n c : Nat) (f : Nat → Nat) (hn : n ≤ 1024) (hc : n ≤ c) (w : World) (h : Code8 w (some ⟨b, o, none⟩) n f) :
    Calls Try.prog 9 #[.slice (some ⟨b, o, none⟩) n c] w fun e w' => (e = .returned (.tuple #[.slice (some ⟨w.heap.size, 0, none⟩) (pcsN n) (pcsN n), .int .i64 0]) ∧ w'.rowIs w.heap.size 9 (pcsN n) (fun i => .string (pcT f n i))) ∧ Below w.heap.size w w' := by
  have n0 : ¬ (65536 : Int) < (n : Int) := by omega
  have PC : Hid (∀ w : World, Calls Try.prog 12 #[.int .i64 (n : Int)] w fun e w' => e = .returned (.tuple #[.int .i64 ((pcsN n : Nat) : Int), .int .i64 0]) ∧ w = w') := fun w => implPc_ok n hn w
  have m1 := mkStrT (pcsN n) (by have := pcsN_le hn; omega)
  have HC : Hid (Code8 w (some ⟨b, o, none⟩) n f) := h
  have HP : Hid (∀ k, k < pcsN n → 64 * k < n) := fun k hk => by unfold pcsN at hk; omega
  have HL : Hid (pcsN n ≤ 16) := pcsN_le hn
  clear h
  generalize pcsN n = N at *
  go_enter Try.func9, Try.ntmps9
  go_wp2_with fail
  refine (PC.out _).mono ?_
  rintro e _ ⟨rfl, rfl⟩
  clear PC
  go_wp2
  go_loopw [23] (fun i wr => ∃ k : Nat, k ≤ N ∧ i = .int .i64 k ∧ wr.rowIs w.heap.size 9 N (fun j => .string (if j < k then pcT f n j else ⟨#[]⟩)) ∧ Below w.heap.size w wr) (fun i _ => N - (intOf i).toNat)
  case atStart =>
    refine ⟨0, by omega, rfl, ?_, (Below.refl _ _).alloc (Nat.le_refl _) _⟩
    exact (World.rowIs_made w (.string ⟨#[]⟩) N 9).congr (fun j hj => by simp)
  case round =>
    obtain ⟨k, hk, rfl, hrow, hb⟩ := hrel
    have HR : Hid (wr.rowIs w.heap.size 9 N (fun j => .string (if j < k then pcT f n j else ⟨#[]⟩))) := hrow
    have HB : Hid (Below w.heap.size w wr) := hb
    by_cases hlt : k < N
    · have hlt' : (k : Int) < (N : Int) := by omega
      have h64 := HP.out k hlt
      have c2 := hrow.cell hlt
      have f2 := hrow.frozen k
      have e2 : (if k < k then pcT f n k else (⟨#[]⟩ : ByteArray)) = ⟨#[]⟩ := if_neg (by omega)
      rw [e2] at c2
      obtain ⟨p, hp⟩ : ∃ p, p = 64 * k := ⟨_, rfl⟩
      obtain ⟨q, hq⟩ : ∃ q, q = min (64 * k + 64) n := ⟨_, rfl⟩
      have ep : (k : Int) * 64 = (p : Int) := by omega
      have p0 : (0 : Int) ≤ (p : Int) := by omega
      have p1 : (p : Int) < 1024 := by omega
      have CV : ∀ x, (convert 22 9 (.slice (some ⟨b, o + p, none⟩) (q - p) x)).run Try.prog wr = .ok (.string (pcT f n k)) wr := fun x => pc_conv (HC.out.below hb) k h64 p q (q - p) x hp hq rfl
      have SL : ∀ w : World, (Instr.slice 22 (.slice (some ⟨b, o, none⟩) n c) (some (.int .i64 (p : Int))) (some (.int .i64 (q : Int))) none).run Try.prog w = .ok (.slice (some ⟨b, o + p, none⟩) (q - p) (c - p)) w := fun w => cut_g p q (by omega) (by omega) hc w
      have mn : (if (p : Int) + 64 < (n : Int) then (p : Int) + 64 else (n : Int)) = (q : Int) := by split <;> omega
      have mn2 : (if (p : Int) + 64 ≤ (n : Int) then (p : Int) + 64 else (n : Int)) = (q : Int) := by split <;> omega
      have mn3 : (if (n : Int) < (p : Int) + 64 then (n : Int) else (p : Int) + 64) = (q : Int) := by split <;> omega
      have mn4 : min ((p : Int) + 64) (n : Int) = (q : Int) := by omega
      generalize hX : pcT f n k = X at *
      have HX : Hid (pcT f n k = X) := hX
      have HN1 : Hid (k < N ∧ k ≤ N) := ⟨hlt, hk⟩
      clear hrow hb e2 m1 hX hp hq h64 hn hc hlt hk
      go_wp2
      go_roundw
      case rel =>
        refine ⟨k + 1, HN1.out.1, by go_num, ?_, HB.out.setCell (by simp) _⟩
        exact (HR.out.set k _).congr (fun j hj => by
          by_cases e : j = k
          · subst e; simp [HX.out]
          · simp only [if_neg e]
            by_cases g : j < k
            · rw [if_pos g, if_pos (by omega)]
            · rw [if_neg g, if_neg (by omega)])
      case measure => have := HN1.out; simp [intOf]; omega
    · obtain rfl : k = N := by omega
      clear hrow hb m1
      go_wp2
      exact bodyPost_ret (results_tmp2 Try.results9 _ _ _) rfl ⟨⟨rfl, HR.out.congr (fun j hj => by rw [if_pos hj])⟩, HB.out⟩
set_option maxRecDepth 100000 in
theorem implCut_no (a : Option Addr) (n c : Nat) (hn : 1024 < n) (hm : n ≤ 1048576) (w : World) :
    Calls Try.prog 9 #[.slice a n c] w fun e w' => e = .returned (.tuple #[.slice none 0 0, .int .i64 (if 65536 < n then 2 else 7)]) ∧ w = w' := by
  by_cases h6 : 65536 < n
  · have n0 : (65536 : Int) < (n : Int) := by omega
    rw [if_pos h6]
    go_enter Try.func9, Try.ntmps9
    go_wp2
    exact bodyPost_ret (results_tmp2 Try.results9 _ _ _) rfl ⟨rfl, rfl⟩
  · have n0 : ¬ (65536 : Int) < (n : Int) := by omega
    rw [if_neg h6]
    have PC : Hid (∀ w : World, Calls Try.prog 12 #[.int .i64 (n : Int)] w fun e w' => e = .returned (.tuple #[.int .i64 0, .int .i64 4]) ∧ w = w') := fun w => implPc_no n (by omega) w
    go_enter Try.func9, Try.ntmps9
    go_wp2_with fail
    refine (PC.out _).mono ?_
    rintro e _ ⟨rfl, rfl⟩
    go_wp2
    exact bodyPost_ret (results_tmp2 Try.results9 _ _ _) rfl ⟨rfl, rfl⟩
set_option maxRecDepth 100000 in
set_option maxHeartbeats 2000000 in
theorem l12Cut_any (b o n c : Nat) (f : Nat → Nat) (hn : n ≤ 1024) (hc : n ≤ c) (w : World) (h : Code8 w (some ⟨b, o, none⟩) n f) :
    Calls Try.prog 34 #[.slice (some ⟨b, o, none⟩) n c] w fun e w' => (∃ a' c', e = .returned (.slice a' (pcsN n) c') ∧ EO w' w.heap.size 9 1 (.slice a' (pcsN n) c') (pcsN n) (pxF (pcT f n))) ∧ Below w.heap.size w w' := by
  have HC : Hid (Code8 w (some ⟨b, o, none⟩) n f) := h
  have HP : Hid (∀ k, (k < pcsN n ↔ 64 * k < n) ∧ (k ≤ pcsN n → ¬ k < pcsN n → k = pcsN n)) := fun k => ⟨by unfold pcsN; omega, by omega⟩
  have HL : Hid (pcsN n ≤ 16) := pcsN_le hn
  clear h
  generalize pcsN n = N at *
  go_enter Try.func34, Try.ntmps34
  go_wp2
  go_loopw [3, 4] (fun v i wr => ∃ (k c2 : Nat) (a2 : Option Addr), k ≤ N ∧ i = .int .i64 ((64 * k : Nat) : Int) ∧ v = .slice a2 k c2 ∧ EO wr w.heap.size 9 1 (.slice a2 k c2) k (pxF (pcT f n)) ∧ Below w.heap.size w wr) (fun _ i _ => 2000 - (intOf i).toNat)
  case atStart => exact ⟨0, 0, _, by omega, rfl, rfl, EO.lit _ _ _ _ (Nat.le_refl _) _, (Below.refl _ _).alloc (Nat.le_refl _) _⟩
  case round =>
    obtain ⟨k, c2, a2, hk, rfl, rfl, ho, hb⟩ := hrel
    have HB : Hid (Below w.heap.size w wr) := hb
    by_cases hlt : k < N
    · have h64 := (HP.out k).1.1 hlt
      obtain ⟨p, hp⟩ : ∃ p, p = 64 * k := ⟨_, rfl⟩
      obtain ⟨q, hq⟩ : ∃ q, q = min (64 * k + 64) n := ⟨_, rfl⟩
      have CV : ∀ x, (convert 22 9 (.slice (some ⟨b, o + p, none⟩) (q - p) x)).run Try.prog wr = .ok (.string (pcT f n k)) wr := fun x => pc_conv (HC.out.below hb) k h64 p q (q - p) x hp hq rfl
      have SL : ∀ w : World, (Instr.slice 22 (.slice (some ⟨b, o, none⟩) n c) (some (.int .i64 (p : Int))) (some (.int .i64 (q : Int))) none).run Try.prog w = .ok (.slice (some ⟨b, o + p, none⟩) (q - p) (c - p)) w := fun w => cut_g p q (by omega) (by omega) hc w
      have mn : (if (n : Int) < (p : Int) + 64 then (n : Int) else (p : Int) + 64) = (q : Int) := by split <;> omega
      have mn2 : (if (p : Int) + 64 < (n : Int) then (p : Int) + 64 else (n : Int)) = (q : Int) := by split <;> omega
      have hpn : (p : Int) < (n : Int) := by omega
      have p0 : (0 : Int) ≤ (p : Int) := by omega
      have p1 : (p : Int) < 1024 := by omega
      have hb2 : Below wr.heap.size wr (wr.alloc (.cells #[.string (pcT f n k)] 9)) := (Below.refl _ _).alloc (Nat.le_refl _) _
      obtain ⟨v', w3, hr, hap, hg, _⟩ := appPx (wr.alloc (.cells #[.string (pcT f n k)] 9)) w.heap.size _ k wr.heap.size (pcT f n) (pcT f n k) (by have := hb.size; simp; omega) (by have := HL.out; omega) (ho.below hb2) (fun j hj => by
        obtain rfl : j = 0 := by omega
        exact (World.rowIs_alloc wr #[.string (pcT f n k)] 9 (fun _ => .string (pcT f n k)) (fun i hi => by
          obtain rfl : i = 0 := by simpa using hi
          rfl)).cell (i := 0) (by omega))
      obtain ⟨a3, c3, rfl⟩ := hap.form
      have HA : Hid (EO w3 w.heap.size 9 1 (.slice a3 (k + 1) c3) (k + 1) (pxF (pcT f n))) := hap.congr (fun i hi j hj => by
        unfold pxF updE
        by_cases e : i = k
        · subst e; rw [if_pos rfl]
        · rw [if_neg e])
      have HB3 : Hid (Below w.heap.size w w3) := hb.trans ((hb2.mono hb.size).trans (grown_below (EO.below ho hb2) hg (by have := hb.size; simp; omega)))
      have e64 : Hid ((64 * k : Nat) + 64 = (64 * (k + 1) : Nat)) := by show _ = _; omega
      have HN1 : Hid (k < N ∧ 64 * k < n ∧ n ≤ 1024) := ⟨hlt, h64, hn⟩
      rw [← hp] at e64 ⊢
      generalize pcT f n k = X at *
      clear ho hb hp hq h64 hn hc hlt hk hap hg hb2
      go_wp2_with (at_builtin; refine Lib.wpList_append_run _ rfl (.tmp 12) (.tmp 22) 24 24 rfl (.slice a2 k c2) (.slice (some ⟨wr.heap.size, 0, none⟩) 1 1) rfl rfl _ _ (hr _) ?_)
      go_roundw
      case rel =>
        refine ⟨k + 1, c3, a3, HN1.out.1, ?_, rfl, HA.out, HB3.out⟩
        have := e64.out
        exact numEqS (by omega)
      case measure => have := HN1.out; have := e64.out; simp [intOf]; omega
    · obtain rfl : k = N := by omega
      have x0 : ¬ ((64 * k : Nat) : Int) < (n : Int) := by
        have := (HP.out k).1
        omega
      have HA : Hid (EO wr w.heap.size 9 1 (.slice a2 k c2) k (pxF (pcT f n))) := ho
      clear ho hb hk hlt
      generalize ((64 * k : Nat) : Int) = Z at *
      go_wp2
      go_ret
      exact ⟨⟨a2, c2, rfl, HA.out⟩, HB.out⟩
theorem EO.pxRow {w : World} {B : Nat} {a : Option Addr} {n c : Nat} {f : Nat → ByteArray} (h : EO w B 9 1 (.slice a n c) n (pxF f)) : ∃ g, TxRow w a g n f ∧ (0 < n → B ≤ g ∧ g < w.heap.size) := by
  obtain ⟨g, hr, hB⟩ := h.rowE
  refine ⟨g, ⟨hr.a, fun i hi => ?_, fun i hi => ?_⟩, fun hn => ⟨hB hn, hr.lt (by omega) hn⟩⟩
  · have := hr.c i hi 0 (by omega)
    rwa [Nat.mul_one, Nat.add_zero] at this
  · exact hr.z i (by omega)
theorem TxRow.none0 (w : World) (a : Option Addr) (g : Nat) (f : Nat → ByteArray) : TxRow w a g 0 f := ⟨fun h => absurd h (by omega), fun i hi => absurd hi (by omega), fun i hi => absurd hi (by omega)⟩
set_option maxRecDepth 100000 in
theorem specCut_ok (b o n c : Nat) (f : Nat → Nat) (hn : n ≤ 1024) (hc : n ≤ c) (w : World) (h : Code8 w (some ⟨b, o, none⟩) n f) :
    Calls Try.prog 10 #[.slice (some ⟨b, o, none⟩) n c] w fun e w' => (∃ a' c', e = .returned (.tuple #[.slice a' (pcsN n) c', .int .i64 0]) ∧ EO w' w.heap.size 9 1 (.slice a' (pcsN n) c') (pcsN n) (pxF (pcT f n))) ∧ Below w.heap.size w w' := by
  have n0 : ¬ (65536 : Int) < (n : Int) := by omega
  have n1 : ¬ (1024 : Int) < (n : Int) := by omega
  have LC : Hid (Calls Try.prog 34 #[.slice (some ⟨b, o, none⟩) n c] w fun e w' => (∃ a' c', e = .returned (.slice a' (pcsN n) c') ∧ EO w' w.heap.size 9 1 (.slice a' (pcsN n) c') (pcsN n) (pxF (pcT f n))) ∧ Below w.heap.size w w') := l12Cut_any b o n c f hn hc w h
  clear h hn hc
  generalize pcsN n = N at *
  generalize pcT f n = F at *
  go_enter Try.func10, Try.ntmps10
  go_wp2_with fail
  refine LC.out.mono ?_
  rintro e w1 ⟨⟨a', c', rfl, ho⟩, hb⟩
  have HO : Hid (EO w1 w.heap.size 9 1 (.slice a' N c') N (pxF F)) := ho
  have HB : Hid (Below w.heap.size w w1) := hb
  clear ho hb LC
  go_wp2
  exact bodyPost_ret (results_tmp2 Try.results10 _ _ _) rfl ⟨⟨a', c', rfl, HO.out⟩, HB.out⟩
set_option maxRecDepth 100000 in
theorem specCut_no (a : Option Addr) (n c : Nat) (hn : 1024 < n) (w : World) :
    Calls Try.prog 10 #[.slice a n c] w fun e w' => (∃ a', e = .returned (.tuple #[.slice a' 0 0, .int .i64 (if 65536 < n then 2 else 7)])) ∧ Below w.heap.size w w' := by
  by_cases h6 : 65536 < n
  · have n0 : (65536 : Int) < (n : Int) := by omega
    rw [if_pos h6]
    go_enter Try.func10, Try.ntmps10
    go_wp2
    exact bodyPost_ret (results_tmp2 Try.results10 _ _ _) rfl ⟨⟨_, rfl⟩, (Below.refl _ _).alloc (Nat.le_refl _) _⟩
  · have n0 : ¬ (65536 : Int) < (n : Int) := by omega
    have n1 : (1024 : Int) < (n : Int) := by omega
    rw [if_neg h6]
    go_enter Try.func10, Try.ntmps10
    go_wp2
    exact bodyPost_ret (results_tmp2 Try.results10 _ _ _) rfl ⟨⟨_, rfl⟩, (Below.refl _ _).alloc (Nat.le_refl _) _⟩
/-- Both answer alike. -/
theorem cut_both (n : Nat) (f : Nat → Nat) (hm : n ≤ 1048576) : ∃ (N : Nat) (EL : Nat → ByteArray) (cd : Int), N ≤ 16 ∧
    (∀ (g0 : Nat) (w : World), Code8 w (some ⟨g0, 0, none⟩) n f → Calls Try.prog 10 #[.slice (some ⟨g0, 0, none⟩) n n] w fun e w' => (∃ (b : Option Addr) (x g : Nat), e = .returned (.tuple #[.slice b N x, .int .i64 cd]) ∧ TxRow w' b g N EL ∧ (0 < N → w.heap.size ≤ g ∧ g < w'.heap.size)) ∧ Below w.heap.size w w') ∧
    (∀ (g0 : Nat) (w : World), Code8 w (some ⟨g0, 0, none⟩) n f → Calls Try.prog 9 #[.slice (some ⟨g0, 0, none⟩) n n] w fun e w' => (∃ (b : Option Addr) (x g : Nat), e = .returned (.tuple #[.slice b N x, .int .i64 cd]) ∧ TxRow w' b g N EL ∧ (0 < N → w.heap.size ≤ g ∧ g < w'.heap.size)) ∧ Below w.heap.size w w') := by
  by_cases hn : n ≤ 1024
  · refine ⟨pcsN n, pcT f n, 0, pcsN_le hn, fun g0 w h => (specCut_ok g0 0 n n f hn (Nat.le_refl _) w h).mono ?_, fun g0 w h => (implCut_ok g0 0 n n f hn (Nat.le_refl _) w h).mono ?_⟩
    · rintro e w' ⟨⟨a', c', rfl, ho⟩, hb⟩
      obtain ⟨g, hr, hg⟩ := ho.pxRow
      exact ⟨⟨a', c', g, rfl, hr, hg⟩, hb⟩
    · rintro e w' ⟨⟨rfl, hr⟩, hb⟩
      exact ⟨⟨_, _, w.heap.size, rfl, ⟨fun _ => rfl, fun i hi => hr.cell hi, fun i _ => hr.frozen i⟩, fun _ => ⟨Nat.le_refl _, hr.lt⟩⟩, hb⟩
  · refine ⟨0, fun _ => ⟨#[]⟩, (if 65536 < n then 2 else 7), by omega, fun g0 w h => (specCut_no _ n n (by omega) w).mono ?_, fun g0 w h => (implCut_no _ n n (by omega) hm w).mono ?_⟩
    · rintro e w' ⟨⟨a', rfl⟩, hb⟩
      exact ⟨⟨_, _, 0, rfl, TxRow.none0 _ _ _ _, fun q => absurd q (by omega)⟩, hb⟩
    · rintro e w' ⟨rfl, rfl⟩
      exact ⟨⟨_, _, 0, rfl, TxRow.none0 _ _ _ _, fun q => absurd q (by omega)⟩, Below.refl _ _⟩
end Go.Proofs.Ytonccbgolbcjfaa
