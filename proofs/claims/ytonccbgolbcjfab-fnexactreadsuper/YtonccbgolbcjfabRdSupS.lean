/-
  ReadSuper of the model (written by tools/mkrss.py).
-/
import Derived.Test.YtonccbgolbcjfabRdSup
import Derived.Laws.Strings2
import Derived.Laws.Strings3
namespace Go.Proofs.Ytonccbgolbcjfab
open Go.ChangeShapes Go.WideShapes Go.ChangeAt Go.RowKit
set_option linter.unusedVariables false
set_option maxRecDepth 100000 in
set_option maxHeartbeats 1000000 in
theorem l06NumberS (t : ByteArray) (k : Nat) (ht : t.size = k) (hk : k ≤ 4) (w : World) :
    Calls Try.prog 50 #[.string t] w fun e w' => e = .returned (.int .i64 ((valN (strB t) k : Nat) : Int)) ∧ w = w' := by
  have hnb := valN_lt (strB t) (strB_lt t)
  go_enter Try.func50, Try.ntmps50
  go_wp2
  go_loopw [3, 4] (fun n i wr => ∃ q : Nat, q ≤ k ∧ i = .int .i64 (q : Int) ∧ n = .int .i64 ((valN (strB t) q : Nat) : Int) ∧ wr = w) (fun _ i _ => k - (intOf i).toNat)
  case atStart => exact ⟨0, by omega, rfl, rfl, rfl⟩
  case round =>
    obtain ⟨q, hq, rfl, rfl, rfl⟩ := hrel
    by_cases hlt : q < k
    · have hlt' : (q : Int) < (t.size : Int) := by omega
      have hqs : q < t.size := by omega
      have hq0 : (0 : Int) ≤ (q : Int) := by omega
      have es := strB_eq t q hqs
      have HN : Hid (valN (strB t) (q + 1) = valN (strB t) q * 256 + strB t q) := rfl
      have hl := strB_lt t q
      have hb2 : valN (strB t) q < 16777216 := Nat.lt_of_lt_of_le (hnb q) (by
        have : 256 ^ q ≤ 256 ^ 3 := Nat.pow_le_pow_right (by omega) (by omega)
        simpa using this)
      generalize valN (strB t) q = N at *
      generalize strB t q = S at *
      clear hnb
      go_wp2
      go_roundw
      case rel => exact ⟨q + 1, by omega, by go_num, numEq8 (by rw [HN.out]; push_cast; omega), trivial⟩
      case measure => simp [intOf]; omega
    · obtain rfl : q = k := by omega
      have hlt' : ¬ (q : Int) < (t.size : Int) := by omega
      clear hnb
      go_wp2
      go_ret
      exact ⟨rfl, rfl⟩
theorem valN_congrS {g h : Nat → Nat} {k : Nat} (e : ∀ i, i < k → g i = h i) : valN g k = valN h k := by
  induction k with
  | zero => rfl
  | succ k ih =>
    show valN g k * 256 + g k = valN h k * 256 + h k
    rw [ih (fun i hi => e i (by omega)), e k (by omega)]
theorem cut_kstrS (T : ByteArray) (o n : Nat) (h : o + n ≤ T.size) : T.extract o (o + n) = kstr (fun j => strB T (o + j)) 0 n := by
  rw [kstr_extract T o n h]
  exact kstr_congr (fun i hi => by rw [Nat.zero_add])
theorem EO.notBox3 {w : World} {B : Nat} {v : Value} {n : Nat} {F : Nat → Nat → Value} (h : EO w B 53 2 v n F) {sb : Nat} {x y z : Value} (hb : Box3 w sb 29 x y z) : ∀ g, v.ownBlock = some g → g ≠ sb := fun g e e3 => by
  obtain ⟨hl, ⟨h1, h2⟩ | ⟨g', cap, cur, hv, hBB, hh, _⟩⟩ := h
  · rw [h1] at e
    cases e
  · rw [hv] at e
    have e2 : g' = g := Option.some.inj e
    obtain ⟨cur', hh', _⟩ := hb
    rw [e2, e3, hh'] at hh
    cases hh
/-- What l12Read answers. -/
def L12A (w w' : World) (e : Ending) (T : ByteArray) : Prop := (RdS T.size (strB T) ∧ ∃ a c, e = .returned (.tuple #[.agg #[.int .i64 (sZ (strB T) : Nat), .slice a (pcsN (sZ (strB T))) c, .string (sR (strB T))], .bool true]) ∧ EO w' w.heap.size 53 2 (.slice a (pcsN (sZ (strB T))) c) (pcsN (sZ (strB T))) (pcF (sP (strB T)))) ∨ (¬ RdS T.size (strB T) ∧ ∃ (x : Int) (a : Option Addr) (n c : Nat) (r : ByteArray), e = .returned (.tuple #[.agg #[.int .i64 x, .slice a n c, .string r], .bool false]))
set_option maxRecDepth 100000 in
set_option maxHeartbeats 8000000 in
theorem l12Read_any (T : ByteArray) (hN : T.size ≤ 65536) (w : World) :
    Calls Try.prog 38 #[.string T] w fun e w' => L12A w w' e T ∧ Below w.heap.size w w' := by
  have AZ : Hid (Below w.heap.size w (w.alloc (.cells #[.int .i64 0, .slice none 0 0, .string ⟨#[]⟩] 29))) := (Below.refl _ _).alloc (Nat.le_refl _) _
  have XZ : Hid (Box3 (w.alloc (.cells #[.int .i64 0, .slice none 0 0, .string ⟨#[]⟩] 29)) w.heap.size 29 (.int .i64 0) (.slice none 0 0) (.string ⟨#[]⟩)) := Box3.made _ _ _ _ _
  by_cases n34 : T.size < 34
  · have n34' : (T.size : Int) < 34 := by omega
    have GD : Hid (¬ RdS T.size (strB T)) := fun q => by have := q.1; omega
    have g0 := XZ.out.c0
    have g1 := XZ.out.c1
    have g2 := XZ.out.c2
    have g3 := XZ.out.fr 0
    have g4 := XZ.out.fr 1
    have g5 := XZ.out.fr 2
    go_enter Try.func38, Try.ntmps38
    go_wp2
    exact ret_cell2 (b := w.heap.size) Try.results38 rfl rfl XZ.out.loadSup ⟨.inr ⟨GD.out, _, _, _, _, _, rfl⟩, AZ.out⟩
  · have n34' : ¬ (T.size : Int) < 34 := by omega
    have NU : Hid (∀ (p : Nat) (w : World), p + 2 ≤ T.size → Calls Try.prog 50 #[.string (T.extract p (p + 2))] w fun e w' => e = .returned (.int .i64 ((valN (fun j => strB T (p + j)) 2 : Nat) : Int)) ∧ w = w') := fun p w hp => by
      have hsz : (T.extract p (p + 2)).size = 2 := by rw [cut_kstrS T p 2 hp]; exact kstr_size _ _ _
      have := l06NumberS (T.extract p (p + 2)) 2 hsz (by omega) w
      rw [valN_congrS (h := fun j => strB T (p + j)) (fun i hi => by
        rw [cut_kstrS T p 2 hp, strB_kstr (fun j => strB T (p + j)) 0 2 i (strB_lt _ _) hi, Nat.zero_add])] at this
      exact this
    have sl0 : ∀ w' : World, (Instr.slice 9 (.string T) none (some (.int .i64 2)) none).run Try.prog w' = .ok (.string (T.extract 0 2)) w' := fun w' => by
      rw [run_slice_string_to_if (P := Try.prog) w' 9 T .i64 2 Try.underlying9, if_pos (by omega)]
      rfl
    have N0 : Hid (∀ w : World, Calls Try.prog 50 #[.string (T.extract 0 2)] w fun e w' => e = .returned (.int .i64 ((sZ (strB T) : Nat) : Int)) ∧ w = w') := fun w => NU.out 0 w (by omega)
    have hxl : sZ (strB T) < 256 ^ 2 := valN_lt _ (fun i => strB_lt T _) 2
    obtain ⟨x0, hx0⟩ : ∃ x, x = sZ (strB T) := ⟨_, rfl⟩
    rw [← hx0] at N0 hxl
    have HX0 : Hid (x0 = sZ (strB T)) := hx0
    have CT : Hid (∀ w : World, Calls Try.prog 29 #[.int .i64 (x0 : Int)] w fun e w' => e = .returned (.int .i64 ((pcsN x0 : Nat) : Int)) ∧ w = w') := fun w => l12Count_any x0 (by omega) w
    obtain ⟨n, hn⟩ : ∃ n, n = pcsN x0 := ⟨_, rfl⟩
    have HNN : Hid (n = pcsN x0) := hn
    rw [← hn] at CT
    have n1024 : n ≤ 1024 := by rw [hn]; unfold pcsN; omega
    have nI : (n : Int) ≤ 1024 := by omega
    have AB : Hid (Below w.heap.size w (((w.alloc (.cells #[.int .i64 0, .slice none 0 0, .string ⟨#[]⟩] 29)).alloc (.cells #[] 53)).alloc (.cells #[.int .i64 (x0 : Int), .slice (some ⟨w.heap.size + 1, 0, none⟩) 0 0, .string ⟨#[]⟩] 29))) := (((Below.refl w.heap.size w).alloc (Nat.le_refl _) _).alloc (by simp) _).alloc (by simp; omega) _
    have X0 : Hid (Box3 (((w.alloc (.cells #[.int .i64 0, .slice none 0 0, .string ⟨#[]⟩] 29)).alloc (.cells #[] 53)).alloc (.cells #[.int .i64 (x0 : Int), .slice (some ⟨w.heap.size + 1, 0, none⟩) 0 0, .string ⟨#[]⟩] 29)) w.heap.size 29 (.int .i64 0) (.slice none 0 0) (.string ⟨#[]⟩)) := ((Box3.made w _ _ _ _).alloc _).alloc _
    have XS : Hid (Box3 (((w.alloc (.cells #[.int .i64 0, .slice none 0 0, .string ⟨#[]⟩] 29)).alloc (.cells #[] 53)).alloc (.cells #[.int .i64 (x0 : Int), .slice (some ⟨w.heap.size + 1, 0, none⟩) 0 0, .string ⟨#[]⟩] 29)) (w.heap.size + 1 + 1) 29 (.int .i64 (x0 : Int)) (.slice (some ⟨w.heap.size + 1, 0, none⟩) 0 0) (.string ⟨#[]⟩)) := Box3.madeAt (by simp) _ _ _ _
    have RV : Hid (EO (((w.alloc (.cells #[.int .i64 0, .slice none 0 0, .string ⟨#[]⟩] 29)).alloc (.cells #[] 53)).alloc (.cells #[.int .i64 (x0 : Int), .slice (some ⟨w.heap.size + 1, 0, none⟩) 0 0, .string ⟨#[]⟩] 29)) (w.heap.size + 1) 53 2 (.slice (some ⟨w.heap.size + 1, 0, none⟩) 0 0) 0 (pcF (sP (strB T)))) := by
      show EO _ _ _ _ _ _ _
      have h1 := EO.lit (w.alloc (.cells #[.int .i64 0, .slice none 0 0, .string ⟨#[]⟩] 29)) (w.heap.size + 1) 53 2 (by simp) (pcF (sP (strB T)))
      rw [show (w.alloc (.cells #[.int .i64 0, .slice none 0 0, .string ⟨#[]⟩] 29)).heap.size = w.heap.size + 1 from by simp] at h1
      exact h1.below ((Below.refl _ _).alloc (Nat.le_refl _) _)
    have k0 := XS.out.c0
    clear hx0 hn
    go_enter Try.func38, Try.ntmps38
    go_wp2_with fail
    refine (N0.out _).mono ?_
    rintro e _ ⟨rfl, rfl⟩
    go_wp2_with fail
    clear k0
    generalize (((w.alloc (.cells #[.int .i64 0, .slice none 0 0, .string ⟨#[]⟩] 29)).alloc (.cells #[] 53)).alloc (.cells #[.int .i64 (x0 : Int), .slice (some ⟨w.heap.size + 1, 0, none⟩) 0 0, .string ⟨#[]⟩] 29)) = v at *
    obtain ⟨sb, hsb⟩ : ∃ x, x = w.heap.size + 1 + 1 := ⟨_, rfl⟩
    have SB : Hid (sb = w.heap.size + 1 + 1) := hsb
    rw [← hsb] at XS ⊢
    clear hsb
    generalize hvv : Value.slice (some ⟨w.heap.size + 1, 0, none⟩) 0 0 = vv at *
    clear hvv
    refine (CT.out _).mono ?_
    rintro e _ ⟨rfl, rfl⟩
    clear N0 CT sl0
    by_cases hT : T.size = 34 + 3 * n
    · have e34 : ((T.size : Int) != 34 + 3 * (n : Int)) = false := by simp; omega
      have HT : Hid (T.size = 34 + 3 * n) := hT
      clear hT
      go_wp2
      go_loopw [6] (fun i wr => ∃ (k : Nat) (v0 : Value), k ≤ n ∧ i = .int .i64 k ∧ Box3 wr w.heap.size 29 (.int .i64 0) (.slice none 0 0) (.string ⟨#[]⟩) ∧ Box3 wr sb 29 (.int .i64 (x0 : Int)) v0 (.string ⟨#[]⟩) ∧ EO wr (w.heap.size + 1) 53 2 v0 k (pcF (sP (strB T))) ∧ Below w.heap.size w wr) (fun i _ => n - (intOf i).toNat)
      case atStart => exact ⟨0, vv, by omega, rfl, X0.out, XS.out, RV.out, AB.out⟩
      case round =>
        clear X0 XS RV AB
        obtain ⟨k, v0, hk, rfl, X0, XS, RV, AB⟩ := hrel
        replace X0 : Hid (Box3 wr w.heap.size 29 (.int .i64 0) (.slice none 0 0) (.string ⟨#[]⟩)) := X0
        replace XS : Hid (Box3 wr sb 29 (.int .i64 (x0 : Int)) v0 (.string ⟨#[]⟩)) := XS
        replace RV : Hid (EO wr (w.heap.size + 1) 53 2 v0 k (pcF (sP (strB T)))) := RV
        replace AB : Hid (Below w.heap.size w wr) := AB
        by_cases hlt : k < n
        · have hlt' : (k : Int) < (n : Int) := by omega
          have kk0 : (0 : Int) ≤ (k : Int) := by omega
          have HK : Hid (k < n) := hlt
          have K16 : Hid (k ≤ 1024) := by show k ≤ 1024; omega
          obtain ⟨Q, hQ⟩ : ∃ Q, Q = 3 * k := ⟨_, rfl⟩
          have e3 : (3 : Int) * (k : Int) = (Q : Int) := by omega
          have hts := HT.out
          have iq : 2 + Q < T.size := by omega
          have iq' : (2 : Int) + (Q : Int) < (T.size : Int) := by omega
          have iq0 : (0 : Int) ≤ 2 + (Q : Int) := by omega
          have iqn : ((2 : Int) + (Q : Int)).toNat = 2 + Q := by omega
          have es := strB_eq T (2 + Q) iq
          have sl1 : ∀ w' : World, (Instr.slice 9 (.string T) (some (.int .i64 (3 + (Q : Int)))) (some (.int .i64 (5 + (Q : Int)))) none).run Try.prog w' = .ok (.string (T.extract (3 + Q) (3 + Q + 2))) w' := fun w' => by
            have := run_slice_string (P := Try.prog) w' 9 T .i64 .i64 (3 + (Q : Int)) (5 + (Q : Int)) Try.underlying9 (by omega) (by omega) (by omega)
            rwa [show (3 + (Q : Int)).toNat = 3 + Q from by omega, show (5 + (Q : Int)).toNat = 3 + Q + 2 from by omega] at this
          have NK : Hid (∀ w : World, Calls Try.prog 50 #[.string (T.extract (3 + Q) (3 + Q + 2))] w fun e w' => e = .returned (.int .i64 ((valN (fun j => strB T (3 + Q + j)) 2 : Nat) : Int)) ∧ w = w') := fun w => NU.out (3 + Q) w (by omega)
          obtain ⟨x1, hx1⟩ : ∃ x, x = strB T (2 + Q) := ⟨_, rfl⟩
          obtain ⟨x2, hx2⟩ : ∃ x, x = valN (fun j => strB T (3 + Q + j)) 2 := ⟨_, rfl⟩
          have EPL : Hid ((⟨(x1 : Int), (x2 : Int)⟩ : Plc) = sP (strB T) k) := by
            show _ = _
            unfold sP
            rw [hx1, hx2, hQ]
            have e1 : valN (fun j => strB T (2 + 3 * k + j)) 1 = strB T (2 + 3 * k) := by simp [valN]
            have e2 : valN (fun j => strB T (2 + 3 * k + 1 + j)) 2 = valN (fun j => strB T (3 + 3 * k + j)) 2 := valN_congrS (fun i _ => by congr 1; omega)
            rw [e1, e2]
          have hl8 : x1 < 256 := by rw [hx1]; exact strB_lt _ _
          rw [← hx1] at es
          rw [← hx2] at NK
          have QB : (Q : Int) ≤ 4000 := by omega
          have wQ : IntKind.i64.wrap (Q : Int) = (Q : Int) := IntWalk.i64_in _ (by omega)
          have wQ2 : IntKind.i64.wrap (2 + (Q : Int)) = 2 + (Q : Int) := IntWalk.i64_in _ (by omega)
          have wQ3 : IntKind.i64.wrap (3 + (Q : Int)) = 3 + (Q : Int) := IntWalk.i64_in _ (by omega)
          have wQ5 : IntKind.i64.wrap (5 + (Q : Int)) = 5 + (Q : Int) := IntWalk.i64_in _ (by omega)
          have wV : IntKind.i64.wrap (x1 : Int) = (x1 : Int) := IntWalk.i64_in _ (by omega)
          generalize hEX : T.extract (3 + Q) (3 + Q + 2) = EX at *
          have hbd : Below wr.heap.size wr wr.drew := (Below.refl _ _).drew
          have X0d : Hid (Box3 wr.drew w.heap.size 29 (.int .i64 0) (.slice none 0 0) (.string ⟨#[]⟩)) := X0.out.below hbd
          have XSd : Hid (Box3 wr.drew sb 29 (.int .i64 (x0 : Int)) v0 (.string ⟨#[]⟩)) := XS.out.below hbd
          have RVd : Hid (EO wr.drew (w.heap.size + 1) 53 2 v0 k (pcF (sP (strB T)))) := RV.out.below hbd
          have ABd : Hid (Below w.heap.size w wr.drew) := AB.out.trans (hbd.mono AB.out.size)
          clear X0 XS RV AB hx1 hx2 hQ hlt hk hts hEX hbd
          have X0 : Hid (Box3 wr.drew w.heap.size 29 (.int .i64 0) (.slice none 0 0) (.string ⟨#[]⟩)) := X0d.out
          have XS : Hid (Box3 wr.drew sb 29 (.int .i64 (x0 : Int)) v0 (.string ⟨#[]⟩)) := XSd.out
          have RV : Hid (EO wr.drew (w.heap.size + 1) 53 2 v0 k (pcF (sP (strB T)))) := RVd.out
          clear X0d XSd RVd
          go_wp2_with fail
          have H : Below w.heap.size w wr.drew := ABd.out
          refine wp_region_noPanic ?_
          refine wp_region_held_drew (S := fun w' => Below w.heap.size w w') (by kernel_rfl) H (fun _ => ?_)
          generalize wr.drew = y0 at *
          refine wpAnyH_take (i := 0) (v := .pointer (some ⟨sb, 1, none⟩)) rfl (by kernel_rfl) (by kernel_rfl) (by kernel_rfl) (fun _ _ _ h => h) (Or.inl ⟨by rfl, ?_⟩) H ?_
          · intro w' hSw; clear hSw; go_simp
          change wpAnyH _ _ _ _ _ _ _ { tmps := #[_, _, _, _, _, _, _, _, _, _, _, _, _, _, _, _, _, _, _, _, _, _, _, _, _, _, _, _, _, _, _, _, _, _, _, _, _, _, _, _, _, _, _, _, _, _, _, _, _, _, _, _, _, _, _, _, _, _, _, _, _], defers := _ } _
          refine wpAnyH_take (i := 2) (v := .string T) rfl (by kernel_rfl) (by kernel_rfl) (by kernel_rfl) (fun _ _ _ h => h) (Or.inl ⟨by rfl, ?_⟩) H ?_
          · intro w' hSw; clear hSw; go_simp
          change wpAnyH _ _ _ _ _ _ _ { tmps := #[_, _, _, _, _, _, _, _, _, _, _, _, _, _, _, _, _, _, _, _, _, _, _, _, _, _, _, _, _, _, _, _, _, _, _, _, _, _, _, _, _, _, _, _, _, _, _, _, _, _, _, _, _, _, _, _, _, _, _, _, _], defers := _ } _
          refine wpAnyH_take (i := 3) (v := .int .i64 (k : Int)) rfl (by kernel_rfl) (by kernel_rfl) (by kernel_rfl) (fun _ _ _ h => h) (Or.inl ⟨by rfl, ?_⟩) H ?_
          · intro w' hSw; clear hSw; go_simp
          change wpAnyH _ _ _ _ _ _ _ { tmps := #[_, _, _, _, _, _, _, _, _, _, _, _, _, _, _, _, _, _, _, _, _, _, _, _, _, _, _, _, _, _, _, _, _, _, _, _, _, _, _, _, _, _, _, _, _, _, _, _, _, _, _, _, _, _, _, _, _, _, _, _, _], defers := _ } _
          refine wpAnyH_take (i := 4) (v := .int .i64 (Q : Int)) rfl (by kernel_rfl) (by kernel_rfl) (by kernel_rfl) (fun _ _ _ h => h) (Or.inl ⟨by rfl, ?_⟩) H ?_
          · intro w' hSw; clear hSw; go_simp
          change wpAnyH _ _ _ _ _ _ _ { tmps := #[_, _, _, _, _, _, _, _, _, _, _, _, _, _, _, _, _, _, _, _, _, _, _, _, _, _, _, _, _, _, _, _, _, _, _, _, _, _, _, _, _, _, _, _, _, _, _, _, _, _, _, _, _, _, _, _, _, _, _, _, _], defers := _ } _
          refine wpAnyH_take (i := 5) (v := .int .i64 (2 + (Q : Int))) rfl (by kernel_rfl) (by kernel_rfl) (by kernel_rfl) (fun _ _ _ h => h) (Or.inl ⟨by rfl, ?_⟩) H ?_
          · intro w' hSw; clear hSw; go_simp
          change wpAnyH _ _ _ _ _ _ _ { tmps := #[_, _, _, _, _, _, _, _, _, _, _, _, _, _, _, _, _, _, _, _, _, _, _, _, _, _, _, _, _, _, _, _, _, _, _, _, _, _, _, _, _, _, _, _, _, _, _, _, _, _, _, _, _, _, _, _, _, _, _, _, _], defers := _ } _
          refine wpAnyH_take (i := 6) (v := .int .u8 (x1 : Int)) rfl (by kernel_rfl) (by kernel_rfl) (by kernel_rfl) (fun _ _ _ h => h) (Or.inl ⟨by rfl, ?_⟩) H ?_
          · intro w' hSw; clear hSw; go_simp
          change wpAnyH _ _ _ _ _ _ _ { tmps := #[_, _, _, _, _, _, _, _, _, _, _, _, _, _, _, _, _, _, _, _, _, _, _, _, _, _, _, _, _, _, _, _, _, _, _, _, _, _, _, _, _, _, _, _, _, _, _, _, _, _, _, _, _, _, _, _, _, _, _, _, _], defers := _ } _
          refine wpAnyH_take (i := 7) (v := .int .i64 (x1 : Int)) rfl (by kernel_rfl) (by kernel_rfl) (by kernel_rfl) (fun _ _ _ h => h) (Or.inl ⟨by rfl, ?_⟩) H ?_
          · intro w' hSw; clear hSw; go_simp
          change wpAnyH _ _ _ _ _ _ _ { tmps := #[_, _, _, _, _, _, _, _, _, _, _, _, _, _, _, _, _, _, _, _, _, _, _, _, _, _, _, _, _, _, _, _, _, _, _, _, _, _, _, _, _, _, _, _, _, _, _, _, _, _, _, _, _, _, _, _, _, _, _, _, _], defers := _ } _
          refine wpAnyH_take (i := 8) (v := .string T) rfl (by kernel_rfl) (by kernel_rfl) (by kernel_rfl) (fun _ _ _ h => h) (Or.inl ⟨by rfl, ?_⟩) H ?_
          · intro w' hSw; clear hSw; go_simp
          change wpAnyH _ _ _ _ _ _ _ { tmps := #[_, _, _, _, _, _, _, _, _, _, _, _, _, _, _, _, _, _, _, _, _, _, _, _, _, _, _, _, _, _, _, _, _, _, _, _, _, _, _, _, _, _, _, _, _, _, _, _, _, _, _, _, _, _, _, _, _, _, _, _, _], defers := _ } _
          refine wpAnyH_take (i := 9) (v := .int .i64 (k : Int)) rfl (by kernel_rfl) (by kernel_rfl) (by kernel_rfl) (fun _ _ _ h => h) (Or.inl ⟨by rfl, ?_⟩) H ?_
          · intro w' hSw; clear hSw; go_simp
          change wpAnyH _ _ _ _ _ _ _ { tmps := #[_, _, _, _, _, _, _, _, _, _, _, _, _, _, _, _, _, _, _, _, _, _, _, _, _, _, _, _, _, _, _, _, _, _, _, _, _, _, _, _, _, _, _, _, _, _, _, _, _, _, _, _, _, _, _, _, _, _, _, _, _], defers := _ } _
          refine wpAnyH_take (i := 10) (v := .int .i64 (Q : Int)) rfl (by kernel_rfl) (by kernel_rfl) (by kernel_rfl) (fun _ _ _ h => h) (Or.inl ⟨by rfl, ?_⟩) H ?_
          · intro w' hSw; clear hSw; go_simp
          change wpAnyH _ _ _ _ _ _ _ { tmps := #[_, _, _, _, _, _, _, _, _, _, _, _, _, _, _, _, _, _, _, _, _, _, _, _, _, _, _, _, _, _, _, _, _, _, _, _, _, _, _, _, _, _, _, _, _, _, _, _, _, _, _, _, _, _, _, _, _, _, _, _, _], defers := _ } _
          refine wpAnyH_take (i := 11) (v := .int .i64 (3 + (Q : Int))) rfl (by kernel_rfl) (by kernel_rfl) (by kernel_rfl) (fun _ _ _ h => h) (Or.inl ⟨by rfl, ?_⟩) H ?_
          · intro w' hSw; clear hSw; go_simp
          change wpAnyH _ _ _ _ _ _ _ { tmps := #[_, _, _, _, _, _, _, _, _, _, _, _, _, _, _, _, _, _, _, _, _, _, _, _, _, _, _, _, _, _, _, _, _, _, _, _, _, _, _, _, _, _, _, _, _, _, _, _, _, _, _, _, _, _, _, _, _, _, _, _, _], defers := _ } _
          refine wpAnyH_take (i := 12) (v := .int .i64 (k : Int)) rfl (by kernel_rfl) (by kernel_rfl) (by kernel_rfl) (fun _ _ _ h => h) (Or.inl ⟨by rfl, ?_⟩) H ?_
          · intro w' hSw; clear hSw; go_simp
          change wpAnyH _ _ _ _ _ _ _ { tmps := #[_, _, _, _, _, _, _, _, _, _, _, _, _, _, _, _, _, _, _, _, _, _, _, _, _, _, _, _, _, _, _, _, _, _, _, _, _, _, _, _, _, _, _, _, _, _, _, _, _, _, _, _, _, _, _, _, _, _, _, _, _], defers := _ } _
          refine wpAnyH_take (i := 13) (v := .int .i64 (Q : Int)) rfl (by kernel_rfl) (by kernel_rfl) (by kernel_rfl) (fun _ _ _ h => h) (Or.inl ⟨by rfl, ?_⟩) H ?_
          · intro w' hSw; clear hSw; go_simp
          change wpAnyH _ _ _ _ _ _ _ { tmps := #[_, _, _, _, _, _, _, _, _, _, _, _, _, _, _, _, _, _, _, _, _, _, _, _, _, _, _, _, _, _, _, _, _, _, _, _, _, _, _, _, _, _, _, _, _, _, _, _, _, _, _, _, _, _, _, _, _, _, _, _, _], defers := _ } _
          refine wpAnyH_take (i := 14) (v := .int .i64 (5 + (Q : Int))) rfl (by kernel_rfl) (by kernel_rfl) (by kernel_rfl) (fun _ _ _ h => h) (Or.inl ⟨by rfl, ?_⟩) H ?_
          · intro w' hSw; clear hSw; go_simp
          change wpAnyH _ _ _ _ _ _ _ { tmps := #[_, _, _, _, _, _, _, _, _, _, _, _, _, _, _, _, _, _, _, _, _, _, _, _, _, _, _, _, _, _, _, _, _, _, _, _, _, _, _, _, _, _, _, _, _, _, _, _, _, _, _, _, _, _, _, _, _, _, _, _, _], defers := _ } _
          refine wpAnyH_take (i := 15) (v := .string EX) rfl (by kernel_rfl) (by kernel_rfl) (by kernel_rfl) (fun _ _ _ h => h) (Or.inl ⟨by rfl, ?_⟩) H ?_
          · intro w' hSw; clear hSw; go_simp
          change wpAnyH _ _ _ _ _ _ _ { tmps := #[_, _, _, _, _, _, _, _, _, _, _, _, _, _, _, _, _, _, _, _, _, _, _, _, _, _, _, _, _, _, _, _, _, _, _, _, _, _, _, _, _, _, _, _, _, _, _, _, _, _, _, _, _, _, _, _, _, _, _, _, _], defers := _ } _
          refine wpAnyH_ready (rs := [1, 16]) (by kernel_rfl) (by simp) ?_
          refine (AllReadyH.cons rfl (fun KK hK => ?_) (AllReadyH.cons rfl (fun KK hK => ?_) AllReadyH.nil))
          · skip
            have c1 := XS.out.c1
            go_simp
            refine hK.out _ _ H (fun _ => ?_)
            clear hK KK
            change wpAnyH _ _ _ _ _ _ _ { tmps := #[_, _, _, _, _, _, _, _, _, _, _, _, _, _, _, _, _, _, _, _, _, _, _, _, _, _, _, _, _, _, _, _, _, _, _, _, _, _, _, _, _, _, _, _, _, _, _, _, _, _, _, _, _, _, _, _, _, _, _, _, _], defers := _ } _
            refine wpAnyH_ready (rs := [16]) (by kernel_rfl) (by simp) ?_
            refine (AllReadyH.cons rfl (fun KK hK => ?_) AllReadyH.nil)
            go_simp
            refine (NK.out _).mono ?_
            rintro e y1 ⟨rfl, hq⟩
            replace hq := hq.symm
            subst hq
            refine hK.out _ _ H (fun _ => ?_)
            clear hK KK
            change wpAnyH _ _ _ _ _ _ _ { tmps := #[_, _, _, _, _, _, _, _, _, _, _, _, _, _, _, _, _, _, _, _, _, _, _, _, _, _, _, _, _, _, _, _, _, _, _, _, _, _, _, _, _, _, _, _, _, _, _, _, _, _, _, _, _, _, _, _, _, _, _, _, _], defers := _ } _
            refine wpAnyH_take (i := 17) (v := .agg #[.int .i64 (x1 : Int), .int .i64 (x2 : Int)]) rfl (by kernel_rfl) (by kernel_rfl) (by kernel_rfl) (fun _ _ _ h => h) (Or.inl ⟨by rfl, ?_⟩) H ?_
            · intro w' hSw; clear hSw; go_simp
            change wpAnyH _ _ _ _ _ _ _ { tmps := #[_, _, _, _, _, _, _, _, _, _, _, _, _, _, _, _, _, _, _, _, _, _, _, _, _, _, _, _, _, _, _, _, _, _, _, _, _, _, _, _, _, _, _, _, _, _, _, _, _, _, _, _, _, _, _, _, _, _, _, _, _], defers := _ } _
            refine wpAnyH_ready (rs := [18]) (by kernel_rfl) (by simp) ?_
            refine (AllReadyH.cons rfl (fun KK hK => ?_) AllReadyH.nil)
            go_simp
            have hb : Below y1.heap.size y1 (y1.alloc (.cells #[.int .i64 (x1 : Int), .int .i64 (x2 : Int)] 53)) := (Below.refl _ _).alloc (Nat.le_refl _) _
            have LB : Hid (Box2 (y1.alloc (.cells #[.int .i64 (x1 : Int), .int .i64 (x2 : Int)] 53)) y1.heap.size 53 (.int .i64 (x1 : Int)) (.int .i64 (x2 : Int))) := Box2.made _ _ _ _
            replace X0 : Hid (Box3 (y1.alloc (.cells #[.int .i64 (x1 : Int), .int .i64 (x2 : Int)] 53)) w.heap.size 29 (.int .i64 0) (.slice none 0 0) (.string ⟨#[]⟩)) := X0.out.below hb
            replace XS : Hid (Box3 (y1.alloc (.cells #[.int .i64 (x1 : Int), .int .i64 (x2 : Int)] 53)) sb 29 (.int .i64 (x0 : Int)) v0 (.string ⟨#[]⟩)) := XS.out.below hb
            replace RV : Hid (EO (y1.alloc (.cells #[.int .i64 (x1 : Int), .int .i64 (x2 : Int)] 53)) (w.heap.size + 1) 53 2 v0 k (pcF (sP (strB T)))) := RV.out.below hb
            replace H : Below w.heap.size w (y1.alloc (.cells #[.int .i64 (x1 : Int), .int .i64 (x2 : Int)] 53)) := H.trans (hb.mono H.size)
            clear hb
            generalize (y1.alloc (.cells #[.int .i64 (x1 : Int), .int .i64 (x2 : Int)] 53)) = y2 at *
            generalize y1.heap.size = lb at *
            refine hK.out _ _ H (fun _ => ?_)
            clear hK KK
            change wpAnyH _ _ _ _ _ _ _ { tmps := #[_, _, _, _, _, _, _, _, _, _, _, _, _, _, _, _, _, _, _, _, _, _, _, _, _, _, _, _, _, _, _, _, _, _, _, _, _, _, _, _, _, _, _, _, _, _, _, _, _, _, _, _, _, _, _, _, _, _, _, _, _], defers := _ } _
            refine wpAnyH_ready (rs := [19]) (by kernel_rfl) (by simp) ?_
            refine (AllReadyH.cons rfl (fun KK hK => ?_) AllReadyH.nil)
            have szl := XS.out.lt
            have szb := SB.out
            obtain ⟨nv, y3, hr5, hE5, hg5, hl5⟩ := appPlc y2 (w.heap.size + 1) v0 k lb (sP (strB T)) (⟨(x1 : Int), (x2 : Int)⟩ : Plc) (by omega) (by have := K16.out; omega) RV.out (fun j hj => by
                rw [Nat.zero_add]
                rcases (show j = 0 ∨ j = 1 by omega) with rfl | rfl
                · exact LB.out.c0
                · exact LB.out.c1)
            obtain ⟨na, nc, rfl⟩ := hE5.form
            have ob : ∀ g, (v0 : Value).ownBlock = some g → w.heap.size + 1 ≤ g := fun g e => (RV.out.ge g e).1
            have ob2 := RV.out.notBox3 XS.out
            replace H : Below w.heap.size w y3 := H.trans ((grown_below RV.out hg5 (by omega)).mono (by omega))
            replace X0 : Hid (Box3 y3 w.heap.size 29 (.int .i64 0) (.slice none 0 0) (.string ⟨#[]⟩)) := X0.out.ofBlock (hg5.block _ X0.out.lt (fun e => by have := ob _ e.symm; omega))
            replace XS : Hid (Box3 y3 sb 29 (.int .i64 (x0 : Int)) v0 (.string ⟨#[]⟩)) := XS.out.ofBlock (hg5.block _ XS.out.lt (fun e => ob2 _ e.symm rfl))
            have RV2 : Hid (EO y3 (w.heap.size + 1) 53 2 (.slice na (k + 1) nc) (k + 1) (pcF (sP (strB T)))) := hE5.congr (fun i hi j hj => by
                unfold pcF updE
                by_cases e : i = k
                · rw [if_pos e, EPL.out, e]
                · rw [if_neg e])
            clear hE5 hg5 hl5 ob ob2 RV LB szl szb
            rw [if_pos (by rfl)]
            refine Lib.wp_append_run _ (.tmp 32) (.tmp 49) 27 27 rfl v0 (.slice (some ⟨lb, 0, none⟩) 1 1) rfl rfl _ _ (hr5 _) ?_
            refine hK.out _ _ H (fun _ => ?_)
            clear hK KK
            change wpAnyH _ _ _ _ _ _ _ { tmps := #[_, _, _, _, _, _, _, _, _, _, _, _, _, _, _, _, _, _, _, _, _, _, _, _, _, _, _, _, _, _, _, _, _, _, _, _, _, _, _, _, _, _, _, _, _, _, _, _, _, _, _, _, _, _, _, _, _, _, _, _, _], defers := _ } _
            refine wpAnyH_take (i := 20) (v := .pointer (some ⟨sb, 1, none⟩)) rfl (by kernel_rfl) (by kernel_rfl) (by kernel_rfl) (fun _ _ _ h => h) (Or.inl ⟨by rfl, ?_⟩) H ?_
            · intro w' hSw; clear hSw; go_simp
            change wpAnyH _ _ _ _ _ _ _ { tmps := #[_, _, _, _, _, _, _, _, _, _, _, _, _, _, _, _, _, _, _, _, _, _, _, _, _, _, _, _, _, _, _, _, _, _, _, _, _, _, _, _, _, _, _, _, _, _, _, _, _, _, _, _, _, _, _, _, _, _, _, _, _], defers := _ } _
            refine wpAnyH_ready (rs := [21]) (by kernel_rfl) (by simp) ?_
            refine (AllReadyH.cons rfl (fun KK hK => ?_) AllReadyH.nil)
            have c1 := XS.out.c1
            have f1 := XS.out.fr 1
            go_simp
            have szz := SB.out
            have ob2 := RV2.out.notBox3 XS.out
            have XS2 : Hid (Box3 (y3.setCell ⟨sb, 1, none⟩ (.slice na (k + 1) nc)) sb 29 (.int .i64 (x0 : Int)) (.slice na (k + 1) nc) (.string ⟨#[]⟩)) := XS.out.set1 _
            replace X0 : Hid (Box3 (y3.setCell ⟨sb, 1, none⟩ (.slice na (k + 1) nc)) w.heap.size 29 (.int .i64 0) (.slice none 0 0) (.string ⟨#[]⟩)) := X0.out.other (by show w.heap.size ≠ sb; omega) _
            replace RV2 : Hid (EO (y3.setCell ⟨sb, 1, none⟩ (.slice na (k + 1) nc)) (w.heap.size + 1) 53 2 (.slice na (k + 1) nc) (k + 1) (pcF (sP (strB T)))) := RV2.out.keep (fun g e => heap_setOtherS _ _ (ob2 g e))
            replace H : Below w.heap.size w (y3.setCell ⟨sb, 1, none⟩ (.slice na (k + 1) nc)) := H.setCell (by show w.heap.size ≤ sb; omega) _
            clear c1 f1 XS szz ob2
            generalize (y3.setCell ⟨sb, 1, none⟩ (.slice na (k + 1) nc)) = y4 at *
            refine hK.out _ _ H (fun _ => ?_)
            clear hK KK
            change wpAnyH _ _ _ _ _ _ _ { tmps := #[_, _, _, _, _, _, _, _, _, _, _, _, _, _, _, _, _, _, _, _, _, _, _, _, _, _, _, _, _, _, _, _, _, _, _, _, _, _, _, _, _, _, _, _, _, _, _, _, _, _, _, _, _, _, _, _, _, _, _, _, _], defers := _ } _
            refine wpAnyH_done (by kernel_rfl) ?_ _
            refine NoPanic.normal ?_
            have B9 : Hid (Below w.heap.size w y4) := H
            clear H NK
            go_wp2
            go_roundw
            case rel => exact ⟨k + 1, _, by have := HK.out; omega, by go_num, X0.out, XS2.out, RV2.out, B9.out⟩
            case measure => have := HK.out; simp [intOf]; omega
          · skip
            go_simp
            refine (NK.out _).mono ?_
            rintro e y1 ⟨rfl, hq⟩
            replace hq := hq.symm
            subst hq
            refine hK.out _ _ H (fun _ => ?_)
            clear hK KK
            change wpAnyH _ _ _ _ _ _ _ { tmps := #[_, _, _, _, _, _, _, _, _, _, _, _, _, _, _, _, _, _, _, _, _, _, _, _, _, _, _, _, _, _, _, _, _, _, _, _, _, _, _, _, _, _, _, _, _, _, _, _, _, _, _, _, _, _, _, _, _, _, _, _, _], defers := _ } _
            refine wpAnyH_take (i := 17) (v := .agg #[.int .i64 (x1 : Int), .int .i64 (x2 : Int)]) rfl (by kernel_rfl) (by kernel_rfl) (by kernel_rfl) (fun _ _ _ h => h) (Or.inl ⟨by rfl, ?_⟩) H ?_
            · intro w' hSw; clear hSw; go_simp
            change wpAnyH _ _ _ _ _ _ _ { tmps := #[_, _, _, _, _, _, _, _, _, _, _, _, _, _, _, _, _, _, _, _, _, _, _, _, _, _, _, _, _, _, _, _, _, _, _, _, _, _, _, _, _, _, _, _, _, _, _, _, _, _, _, _, _, _, _, _, _, _, _, _, _], defers := _ } _
            refine wpAnyH_ready (rs := [1, 18]) (by kernel_rfl) (by simp) ?_
            refine (AllReadyH.cons rfl (fun KK hK => ?_) (AllReadyH.cons rfl (fun KK hK => ?_) AllReadyH.nil))
            · skip
              have c1 := XS.out.c1
              go_simp
              refine hK.out _ _ H (fun _ => ?_)
              clear hK KK
              change wpAnyH _ _ _ _ _ _ _ { tmps := #[_, _, _, _, _, _, _, _, _, _, _, _, _, _, _, _, _, _, _, _, _, _, _, _, _, _, _, _, _, _, _, _, _, _, _, _, _, _, _, _, _, _, _, _, _, _, _, _, _, _, _, _, _, _, _, _, _, _, _, _, _], defers := _ } _
              refine wpAnyH_ready (rs := [18]) (by kernel_rfl) (by simp) ?_
              refine (AllReadyH.cons rfl (fun KK hK => ?_) AllReadyH.nil)
              go_simp
              have hb : Below y1.heap.size y1 (y1.alloc (.cells #[.int .i64 (x1 : Int), .int .i64 (x2 : Int)] 53)) := (Below.refl _ _).alloc (Nat.le_refl _) _
              have LB : Hid (Box2 (y1.alloc (.cells #[.int .i64 (x1 : Int), .int .i64 (x2 : Int)] 53)) y1.heap.size 53 (.int .i64 (x1 : Int)) (.int .i64 (x2 : Int))) := Box2.made _ _ _ _
              replace X0 : Hid (Box3 (y1.alloc (.cells #[.int .i64 (x1 : Int), .int .i64 (x2 : Int)] 53)) w.heap.size 29 (.int .i64 0) (.slice none 0 0) (.string ⟨#[]⟩)) := X0.out.below hb
              replace XS : Hid (Box3 (y1.alloc (.cells #[.int .i64 (x1 : Int), .int .i64 (x2 : Int)] 53)) sb 29 (.int .i64 (x0 : Int)) v0 (.string ⟨#[]⟩)) := XS.out.below hb
              replace RV : Hid (EO (y1.alloc (.cells #[.int .i64 (x1 : Int), .int .i64 (x2 : Int)] 53)) (w.heap.size + 1) 53 2 v0 k (pcF (sP (strB T)))) := RV.out.below hb
              replace H : Below w.heap.size w (y1.alloc (.cells #[.int .i64 (x1 : Int), .int .i64 (x2 : Int)] 53)) := H.trans (hb.mono H.size)
              clear hb
              generalize (y1.alloc (.cells #[.int .i64 (x1 : Int), .int .i64 (x2 : Int)] 53)) = y2 at *
              generalize y1.heap.size = lb at *
              refine hK.out _ _ H (fun _ => ?_)
              clear hK KK
              change wpAnyH _ _ _ _ _ _ _ { tmps := #[_, _, _, _, _, _, _, _, _, _, _, _, _, _, _, _, _, _, _, _, _, _, _, _, _, _, _, _, _, _, _, _, _, _, _, _, _, _, _, _, _, _, _, _, _, _, _, _, _, _, _, _, _, _, _, _, _, _, _, _, _], defers := _ } _
              refine wpAnyH_ready (rs := [19]) (by kernel_rfl) (by simp) ?_
              refine (AllReadyH.cons rfl (fun KK hK => ?_) AllReadyH.nil)
              have szl := XS.out.lt
              have szb := SB.out
              obtain ⟨nv, y3, hr5, hE5, hg5, hl5⟩ := appPlc y2 (w.heap.size + 1) v0 k lb (sP (strB T)) (⟨(x1 : Int), (x2 : Int)⟩ : Plc) (by omega) (by have := K16.out; omega) RV.out (fun j hj => by
                  rw [Nat.zero_add]
                  rcases (show j = 0 ∨ j = 1 by omega) with rfl | rfl
                  · exact LB.out.c0
                  · exact LB.out.c1)
              obtain ⟨na, nc, rfl⟩ := hE5.form
              have ob : ∀ g, (v0 : Value).ownBlock = some g → w.heap.size + 1 ≤ g := fun g e => (RV.out.ge g e).1
              have ob2 := RV.out.notBox3 XS.out
              replace H : Below w.heap.size w y3 := H.trans ((grown_below RV.out hg5 (by omega)).mono (by omega))
              replace X0 : Hid (Box3 y3 w.heap.size 29 (.int .i64 0) (.slice none 0 0) (.string ⟨#[]⟩)) := X0.out.ofBlock (hg5.block _ X0.out.lt (fun e => by have := ob _ e.symm; omega))
              replace XS : Hid (Box3 y3 sb 29 (.int .i64 (x0 : Int)) v0 (.string ⟨#[]⟩)) := XS.out.ofBlock (hg5.block _ XS.out.lt (fun e => ob2 _ e.symm rfl))
              have RV2 : Hid (EO y3 (w.heap.size + 1) 53 2 (.slice na (k + 1) nc) (k + 1) (pcF (sP (strB T)))) := hE5.congr (fun i hi j hj => by
                  unfold pcF updE
                  by_cases e : i = k
                  · rw [if_pos e, EPL.out, e]
                  · rw [if_neg e])
              clear hE5 hg5 hl5 ob ob2 RV LB szl szb
              rw [if_pos (by rfl)]
              refine Lib.wp_append_run _ (.tmp 32) (.tmp 49) 27 27 rfl v0 (.slice (some ⟨lb, 0, none⟩) 1 1) rfl rfl _ _ (hr5 _) ?_
              refine hK.out _ _ H (fun _ => ?_)
              clear hK KK
              change wpAnyH _ _ _ _ _ _ _ { tmps := #[_, _, _, _, _, _, _, _, _, _, _, _, _, _, _, _, _, _, _, _, _, _, _, _, _, _, _, _, _, _, _, _, _, _, _, _, _, _, _, _, _, _, _, _, _, _, _, _, _, _, _, _, _, _, _, _, _, _, _, _, _], defers := _ } _
              refine wpAnyH_take (i := 20) (v := .pointer (some ⟨sb, 1, none⟩)) rfl (by kernel_rfl) (by kernel_rfl) (by kernel_rfl) (fun _ _ _ h => h) (Or.inl ⟨by rfl, ?_⟩) H ?_
              · intro w' hSw; clear hSw; go_simp
              change wpAnyH _ _ _ _ _ _ _ { tmps := #[_, _, _, _, _, _, _, _, _, _, _, _, _, _, _, _, _, _, _, _, _, _, _, _, _, _, _, _, _, _, _, _, _, _, _, _, _, _, _, _, _, _, _, _, _, _, _, _, _, _, _, _, _, _, _, _, _, _, _, _, _], defers := _ } _
              refine wpAnyH_ready (rs := [21]) (by kernel_rfl) (by simp) ?_
              refine (AllReadyH.cons rfl (fun KK hK => ?_) AllReadyH.nil)
              have c1 := XS.out.c1
              have f1 := XS.out.fr 1
              go_simp
              have szz := SB.out
              have ob2 := RV2.out.notBox3 XS.out
              have XS2 : Hid (Box3 (y3.setCell ⟨sb, 1, none⟩ (.slice na (k + 1) nc)) sb 29 (.int .i64 (x0 : Int)) (.slice na (k + 1) nc) (.string ⟨#[]⟩)) := XS.out.set1 _
              replace X0 : Hid (Box3 (y3.setCell ⟨sb, 1, none⟩ (.slice na (k + 1) nc)) w.heap.size 29 (.int .i64 0) (.slice none 0 0) (.string ⟨#[]⟩)) := X0.out.other (by show w.heap.size ≠ sb; omega) _
              replace RV2 : Hid (EO (y3.setCell ⟨sb, 1, none⟩ (.slice na (k + 1) nc)) (w.heap.size + 1) 53 2 (.slice na (k + 1) nc) (k + 1) (pcF (sP (strB T)))) := RV2.out.keep (fun g e => heap_setOtherS _ _ (ob2 g e))
              replace H : Below w.heap.size w (y3.setCell ⟨sb, 1, none⟩ (.slice na (k + 1) nc)) := H.setCell (by show w.heap.size ≤ sb; omega) _
              clear c1 f1 XS szz ob2
              generalize (y3.setCell ⟨sb, 1, none⟩ (.slice na (k + 1) nc)) = y4 at *
              refine hK.out _ _ H (fun _ => ?_)
              clear hK KK
              change wpAnyH _ _ _ _ _ _ _ { tmps := #[_, _, _, _, _, _, _, _, _, _, _, _, _, _, _, _, _, _, _, _, _, _, _, _, _, _, _, _, _, _, _, _, _, _, _, _, _, _, _, _, _, _, _, _, _, _, _, _, _, _, _, _, _, _, _, _, _, _, _, _, _], defers := _ } _
              refine wpAnyH_done (by kernel_rfl) ?_ _
              refine NoPanic.normal ?_
              have B9 : Hid (Below w.heap.size w y4) := H
              clear H NK
              go_wp2
              go_roundw
              case rel => exact ⟨k + 1, _, by have := HK.out; omega, by go_num, X0.out, XS2.out, RV2.out, B9.out⟩
              case measure => have := HK.out; simp [intOf]; omega
            · skip
              go_simp
              have hb : Below y1.heap.size y1 (y1.alloc (.cells #[.int .i64 (x1 : Int), .int .i64 (x2 : Int)] 53)) := (Below.refl _ _).alloc (Nat.le_refl _) _
              have LB : Hid (Box2 (y1.alloc (.cells #[.int .i64 (x1 : Int), .int .i64 (x2 : Int)] 53)) y1.heap.size 53 (.int .i64 (x1 : Int)) (.int .i64 (x2 : Int))) := Box2.made _ _ _ _
              replace X0 : Hid (Box3 (y1.alloc (.cells #[.int .i64 (x1 : Int), .int .i64 (x2 : Int)] 53)) w.heap.size 29 (.int .i64 0) (.slice none 0 0) (.string ⟨#[]⟩)) := X0.out.below hb
              replace XS : Hid (Box3 (y1.alloc (.cells #[.int .i64 (x1 : Int), .int .i64 (x2 : Int)] 53)) sb 29 (.int .i64 (x0 : Int)) v0 (.string ⟨#[]⟩)) := XS.out.below hb
              replace RV : Hid (EO (y1.alloc (.cells #[.int .i64 (x1 : Int), .int .i64 (x2 : Int)] 53)) (w.heap.size + 1) 53 2 v0 k (pcF (sP (strB T)))) := RV.out.below hb
              replace H : Below w.heap.size w (y1.alloc (.cells #[.int .i64 (x1 : Int), .int .i64 (x2 : Int)] 53)) := H.trans (hb.mono H.size)
              clear hb
              generalize (y1.alloc (.cells #[.int .i64 (x1 : Int), .int .i64 (x2 : Int)] 53)) = y2 at *
              generalize y1.heap.size = lb at *
              refine hK.out _ _ H (fun _ => ?_)
              clear hK KK
              change wpAnyH _ _ _ _ _ _ _ { tmps := #[_, _, _, _, _, _, _, _, _, _, _, _, _, _, _, _, _, _, _, _, _, _, _, _, _, _, _, _, _, _, _, _, _, _, _, _, _, _, _, _, _, _, _, _, _, _, _, _, _, _, _, _, _, _, _, _, _, _, _, _, _], defers := _ } _
              refine wpAnyH_ready (rs := [1]) (by kernel_rfl) (by simp) ?_
              refine (AllReadyH.cons rfl (fun KK hK => ?_) AllReadyH.nil)
              have c1 := XS.out.c1
              go_simp
              refine hK.out _ _ H (fun _ => ?_)
              clear hK KK
              change wpAnyH _ _ _ _ _ _ _ { tmps := #[_, _, _, _, _, _, _, _, _, _, _, _, _, _, _, _, _, _, _, _, _, _, _, _, _, _, _, _, _, _, _, _, _, _, _, _, _, _, _, _, _, _, _, _, _, _, _, _, _, _, _, _, _, _, _, _, _, _, _, _, _], defers := _ } _
              refine wpAnyH_ready (rs := [19]) (by kernel_rfl) (by simp) ?_
              refine (AllReadyH.cons rfl (fun KK hK => ?_) AllReadyH.nil)
              have szl := XS.out.lt
              have szb := SB.out
              obtain ⟨nv, y3, hr5, hE5, hg5, hl5⟩ := appPlc y2 (w.heap.size + 1) v0 k lb (sP (strB T)) (⟨(x1 : Int), (x2 : Int)⟩ : Plc) (by omega) (by have := K16.out; omega) RV.out (fun j hj => by
                  rw [Nat.zero_add]
                  rcases (show j = 0 ∨ j = 1 by omega) with rfl | rfl
                  · exact LB.out.c0
                  · exact LB.out.c1)
              obtain ⟨na, nc, rfl⟩ := hE5.form
              have ob : ∀ g, (v0 : Value).ownBlock = some g → w.heap.size + 1 ≤ g := fun g e => (RV.out.ge g e).1
              have ob2 := RV.out.notBox3 XS.out
              replace H : Below w.heap.size w y3 := H.trans ((grown_below RV.out hg5 (by omega)).mono (by omega))
              replace X0 : Hid (Box3 y3 w.heap.size 29 (.int .i64 0) (.slice none 0 0) (.string ⟨#[]⟩)) := X0.out.ofBlock (hg5.block _ X0.out.lt (fun e => by have := ob _ e.symm; omega))
              replace XS : Hid (Box3 y3 sb 29 (.int .i64 (x0 : Int)) v0 (.string ⟨#[]⟩)) := XS.out.ofBlock (hg5.block _ XS.out.lt (fun e => ob2 _ e.symm rfl))
              have RV2 : Hid (EO y3 (w.heap.size + 1) 53 2 (.slice na (k + 1) nc) (k + 1) (pcF (sP (strB T)))) := hE5.congr (fun i hi j hj => by
                  unfold pcF updE
                  by_cases e : i = k
                  · rw [if_pos e, EPL.out, e]
                  · rw [if_neg e])
              clear hE5 hg5 hl5 ob ob2 RV LB szl szb
              rw [if_pos (by rfl)]
              refine Lib.wp_append_run _ (.tmp 32) (.tmp 49) 27 27 rfl v0 (.slice (some ⟨lb, 0, none⟩) 1 1) rfl rfl _ _ (hr5 _) ?_
              refine hK.out _ _ H (fun _ => ?_)
              clear hK KK
              change wpAnyH _ _ _ _ _ _ _ { tmps := #[_, _, _, _, _, _, _, _, _, _, _, _, _, _, _, _, _, _, _, _, _, _, _, _, _, _, _, _, _, _, _, _, _, _, _, _, _, _, _, _, _, _, _, _, _, _, _, _, _, _, _, _, _, _, _, _, _, _, _, _, _], defers := _ } _
              refine wpAnyH_take (i := 20) (v := .pointer (some ⟨sb, 1, none⟩)) rfl (by kernel_rfl) (by kernel_rfl) (by kernel_rfl) (fun _ _ _ h => h) (Or.inl ⟨by rfl, ?_⟩) H ?_
              · intro w' hSw; clear hSw; go_simp
              change wpAnyH _ _ _ _ _ _ _ { tmps := #[_, _, _, _, _, _, _, _, _, _, _, _, _, _, _, _, _, _, _, _, _, _, _, _, _, _, _, _, _, _, _, _, _, _, _, _, _, _, _, _, _, _, _, _, _, _, _, _, _, _, _, _, _, _, _, _, _, _, _, _, _], defers := _ } _
              refine wpAnyH_ready (rs := [21]) (by kernel_rfl) (by simp) ?_
              refine (AllReadyH.cons rfl (fun KK hK => ?_) AllReadyH.nil)
              have c1 := XS.out.c1
              have f1 := XS.out.fr 1
              go_simp
              have szz := SB.out
              have ob2 := RV2.out.notBox3 XS.out
              have XS2 : Hid (Box3 (y3.setCell ⟨sb, 1, none⟩ (.slice na (k + 1) nc)) sb 29 (.int .i64 (x0 : Int)) (.slice na (k + 1) nc) (.string ⟨#[]⟩)) := XS.out.set1 _
              replace X0 : Hid (Box3 (y3.setCell ⟨sb, 1, none⟩ (.slice na (k + 1) nc)) w.heap.size 29 (.int .i64 0) (.slice none 0 0) (.string ⟨#[]⟩)) := X0.out.other (by show w.heap.size ≠ sb; omega) _
              replace RV2 : Hid (EO (y3.setCell ⟨sb, 1, none⟩ (.slice na (k + 1) nc)) (w.heap.size + 1) 53 2 (.slice na (k + 1) nc) (k + 1) (pcF (sP (strB T)))) := RV2.out.keep (fun g e => heap_setOtherS _ _ (ob2 g e))
              replace H : Below w.heap.size w (y3.setCell ⟨sb, 1, none⟩ (.slice na (k + 1) nc)) := H.setCell (by show w.heap.size ≤ sb; omega) _
              clear c1 f1 XS szz ob2
              generalize (y3.setCell ⟨sb, 1, none⟩ (.slice na (k + 1) nc)) = y4 at *
              refine hK.out _ _ H (fun _ => ?_)
              clear hK KK
              change wpAnyH _ _ _ _ _ _ _ { tmps := #[_, _, _, _, _, _, _, _, _, _, _, _, _, _, _, _, _, _, _, _, _, _, _, _, _, _, _, _, _, _, _, _, _, _, _, _, _, _, _, _, _, _, _, _, _, _, _, _, _, _, _, _, _, _, _, _, _, _, _, _, _], defers := _ } _
              refine wpAnyH_done (by kernel_rfl) ?_ _
              refine NoPanic.normal ?_
              have B9 : Hid (Below w.heap.size w y4) := H
              clear H NK
              go_wp2
              go_roundw
              case rel => exact ⟨k + 1, _, by have := HK.out; omega, by go_num, X0.out, XS2.out, RV2.out, B9.out⟩
              case measure => have := HK.out; simp [intOf]; omega
        · obtain rfl : k = n := by omega
          have hts := HT.out
          have sl2 : ∀ w' : World, (Instr.slice 9 (.string T) (some (.int .i64 (2 + 3 * (k : Int)))) none none).run Try.prog w' = .ok (.string (sR (strB T))) w' := fun w' => by
            rw [run_slice_string_from_if (P := Try.prog) w' 9 T .i64 (2 + 3 * (k : Int)) Try.underlying9, if_pos (by omega)]
            have e1 : (2 + 3 * (k : Int)).toNat = 2 + 3 * k := by omega
            have e2 : T.extract (2 + 3 * k) T.size = sR (strB T) := by
              rw [show T.size = 2 + 3 * k + 32 from by omega, cut_kstrS T (2 + 3 * k) 32 (by omega)]
              unfold sR
              rw [← HX0.out, ← HNN.out]
            rw [e1, e2]
          have b3 : 3 * (k : Int) ≤ 4000 := by omega
          obtain ⟨na, nc, rfl⟩ := RV.out.form
          have c2 := XS.out.c2
          have f2 := XS.out.fr 2
          have szz := SB.out
          have HRD : Hid (RdS T.size (strB T) ↔ SupOk (x0 : Int) k (sP (strB T)) (sR (strB T))) := by
            show _ ↔ _
            unfold RdS
            rw [← HX0.out, ← HNN.out]
            exact ⟨fun q => q.2, fun q => ⟨hts, q⟩⟩
          have HRT : Hid (∀ w', EO w' w.heap.size 53 2 (.slice na k nc) k (pcF (sP (strB T))) → RdS T.size (strB T) → L12A w w' (.returned (.tuple #[.agg #[.int .i64 (x0 : Int), .slice na k nc, .string (sR (strB T))], .bool true])) T) := fun w' ho hr => by
            refine .inl ⟨hr, na, nc, ?_, ?_⟩
            · rw [← HX0.out, ← HNN.out]
            · rw [← HX0.out, ← HNN.out]; exact ho
          have HRF : Hid (∀ (w' : World) (x : Int) (a : Option Addr) (n c : Nat) (r : ByteArray), ¬ RdS T.size (strB T) → L12A w w' (.returned (.tuple #[.agg #[.int .i64 x, .slice a n c, .string r], .bool false])) T) := fun w' x a n c r hr => .inr ⟨hr, x, a, n, c, r, rfl⟩
          generalize hRT : sR (strB T) = RT at *
          have XS2 : Hid (Box3 (wr.setCell ⟨sb, 2, none⟩ (.string RT)) sb 29 (.int .i64 (x0 : Int)) (.slice na k nc) (.string RT)) := XS.out.set2 _
          replace X0 : Hid (Box3 (wr.setCell ⟨sb, 2, none⟩ (.string RT)) w.heap.size 29 (.int .i64 0) (.slice none 0 0) (.string ⟨#[]⟩)) := X0.out.other (by show w.heap.size ≠ sb; omega) _
          have RV2 : Hid (EO (wr.setCell ⟨sb, 2, none⟩ (.string RT)) (w.heap.size + 1) 53 2 (.slice na k nc) k (pcF (sP (strB T)))) := RV.out.keep (fun g e => heap_setOtherS _ _ (RV.out.notBox3 XS.out g e))
          replace AB : Hid (Below w.heap.size w (wr.setCell ⟨sb, 2, none⟩ (.string RT))) := AB.out.setCell (by show w.heap.size ≤ sb; omega) _
          clear hlt hk hts hRT szz
          go_upto_region 12 with fail
          clear XS RV c2 f2 sl2
          generalize wr.setCell ⟨sb, 2, none⟩ (.string RT) = u4 at *
          have SKK : Hid (∀ (y : Bool) (u : World), y = gB (SupOk (x0 : Int) k (sP (strB T)) RT) → Els u 2 na k (pcF (sP (strB T))) → Calls Try.prog 8 #[.agg #[.int .i64 (x0 : Int), .slice na k nc, .string RT]] u fun e w' => e = .returned (.bool y) ∧ Below u.heap.size u w') := fun y u hy he => specSupOK_any (x0 : Int) na k nc (sP (strB T)) RT (by omega) u he y hy
          by_cases hs : SupOk (x0 : Int) k (sP (strB T)) RT
          · have SK1 : Hid (∀ u : World, Els u 2 na k (pcF (sP (strB T))) → Calls Try.prog 8 #[.agg #[.int .i64 (x0 : Int), .slice na k nc, .string RT]] u fun e w' => e = .returned (.bool true) ∧ Below u.heap.size u w') := fun u he => SKK.out true u (gB_yes hs).symm he
            have HRR : Hid (RdS T.size (strB T)) := HRD.out.2 hs
            clear SKK hs HRD
            have hbd : Below u4.heap.size u4 u4.drew := (Below.refl _ _).drew
            have H : Box3 u4.drew sb 29 (.int .i64 (x0 : Int)) (.slice na k nc) (.string RT) := XS2.out.below hbd
            replace X0 : Hid (Box3 u4.drew w.heap.size 29 (.int .i64 0) (.slice none 0 0) (.string ⟨#[]⟩)) := X0.out.below hbd
            replace RV2 : Hid (EO u4.drew (w.heap.size + 1) 53 2 (.slice na k nc) k (pcF (sP (strB T)))) := RV2.out.below hbd
            replace AB : Hid (Below w.heap.size w u4.drew) := AB.out.trans (hbd.mono AB.out.size)
            clear hbd XS2
            refine wp_region_noPanic ?_
            refine wp_region_held_drew (S := fun w' => Box3 w' sb 29 (.int .i64 (x0 : Int)) (.slice na k nc) (.string RT)) (by kernel_rfl) H (fun _ => ?_)
            generalize u4.drew = u5 at *
            refine wpAnyH_take (i := 0) (v := .agg #[.int .i64 (x0 : Int), .slice na k nc, .string RT]) rfl (by kernel_rfl) (by kernel_rfl) (by kernel_rfl) (fun _ _ _ h => h) (Or.inl ⟨by rfl, ?_⟩) H ?_
            · intro w' hSw; have t0 := hSw.c0; have t1 := hSw.c1; have t2 := hSw.c2; clear hSw; go_simp
            change wpAnyH _ _ _ _ _ _ _ { tmps := #[_, _, _, _, _, _, _, _, _, _, _, _, _, _, _, _, _, _, _, _, _, _, _, _, _, _, _, _, _, _, _, _, _, _, _, _, _, _, _, _, _, _, _, _, _, _, _, _, _, _, _, _, _, _, _, _, _, _, _, _, _], defers := _ } _
            refine wpAnyH_take (i := 1) (v := .agg #[.int .i64 (x0 : Int), .slice na k nc, .string RT]) rfl (by kernel_rfl) (by kernel_rfl) (by kernel_rfl) (fun _ _ _ h => h) (Or.inl ⟨by rfl, ?_⟩) H ?_
            · intro w' hSw; have t0 := hSw.c0; have t1 := hSw.c1; have t2 := hSw.c2; clear hSw; go_simp
            change wpAnyH _ _ _ _ _ _ _ { tmps := #[_, _, _, _, _, _, _, _, _, _, _, _, _, _, _, _, _, _, _, _, _, _, _, _, _, _, _, _, _, _, _, _, _, _, _, _, _, _, _, _, _, _, _, _, _, _, _, _, _, _, _, _, _, _, _, _, _, _, _, _, _], defers := _ } _
            refine wpAnyH_ready (rs := [2]) (by kernel_rfl) (by simp) ?_
            refine AllReadyH.cons rfl (fun KK hK => ?_) AllReadyH.nil
            go_simp
            refine Calls.mono (SK1.out _ RV2.out.els) ?_
            rintro e u6 ⟨rfl, hb⟩
            replace H : Box3 u6 sb 29 (.int .i64 (x0 : Int)) (.slice na k nc) (.string RT) := H.below hb
            replace X0 : Hid (Box3 u6 w.heap.size 29 (.int .i64 0) (.slice none 0 0) (.string ⟨#[]⟩)) := X0.out.below hb
            replace RV2 : Hid (EO u6 (w.heap.size + 1) 53 2 (.slice na k nc) k (pcF (sP (strB T)))) := RV2.out.below hb
            replace AB : Hid (Below w.heap.size w u6) := AB.out.trans (hb.mono AB.out.size)
            clear hb SK1
            refine hK.out _ _ H (fun _ => ?_)
            clear hK KK
            change wpAnyH _ _ _ _ _ _ _ { tmps := #[_, _, _, _, _, _, _, _, _, _, _, _, _, _, _, _, _, _, _, _, _, _, _, _, _, _, _, _, _, _, _, _, _, _, _, _, _, _, _, _, _, _, _, _, _, _, _, _, _, _, _, _, _, _, _, _, _, _, _, _, _], defers := _ } _
            refine wpAnyH_ready (rs := [3]) (by kernel_rfl) (by simp) ?_
            refine AllReadyH.cons rfl (fun KK hK => ?_) AllReadyH.nil
            have g0 := X0.out.c0
            have g1 := X0.out.c1
            have g2 := X0.out.c2
            have h0 := X0.out.fr 0
            have h1 := X0.out.fr 1
            have h2 := X0.out.fr 2
            go_simp
            have szz := SB.out
            have FB : Box3 (((u6.setCell ⟨w.heap.size, 0, none⟩ (.int .i64 (x0 : Int))).setCell ⟨w.heap.size, 1, none⟩ (.slice na k nc)).setCell ⟨w.heap.size, 2, none⟩ (.string RT)) w.heap.size 29 (.int .i64 (x0 : Int)) (.slice na k nc) (.string RT) := ((X0.out.set0 _).set1 _).set2 _
            have FH : Box3 (((u6.setCell ⟨w.heap.size, 0, none⟩ (.int .i64 (x0 : Int))).setCell ⟨w.heap.size, 1, none⟩ (.slice na k nc)).setCell ⟨w.heap.size, 2, none⟩ (.string RT)) sb 29 (.int .i64 (x0 : Int)) (.slice na k nc) (.string RT) := ((H.other (by show sb ≠ w.heap.size; omega) _).other (by show sb ≠ w.heap.size; omega) _).other (by show sb ≠ w.heap.size; omega) _
            have FR : EO (((u6.setCell ⟨w.heap.size, 0, none⟩ (.int .i64 (x0 : Int))).setCell ⟨w.heap.size, 1, none⟩ (.slice na k nc)).setCell ⟨w.heap.size, 2, none⟩ (.string RT)) w.heap.size 53 2 (.slice na k nc) k (pcF (sP (strB T))) := (RV2.out.keep (fun g e => by
              have := (RV2.out.ge g e).1
              exact ((heap_setOtherS _ _ (by show g ≠ w.heap.size; omega)).trans (heap_setOtherS _ _ (by show g ≠ w.heap.size; omega))).trans (heap_setOtherS _ _ (by show g ≠ w.heap.size; omega)))).mono (by omega)
            have FA : Below w.heap.size w (((u6.setCell ⟨w.heap.size, 0, none⟩ (.int .i64 (x0 : Int))).setCell ⟨w.heap.size, 1, none⟩ (.slice na k nc)).setCell ⟨w.heap.size, 2, none⟩ (.string RT)) := ((AB.out.setCell (by simp) _).setCell (by simp) _).setCell (by simp) _
            have FB2 : Hid (Box3 (((u6.setCell ⟨w.heap.size, 0, none⟩ (.int .i64 (x0 : Int))).setCell ⟨w.heap.size, 1, none⟩ (.slice na k nc)).setCell ⟨w.heap.size, 2, none⟩ (.string RT)) w.heap.size 29 (.int .i64 (x0 : Int)) (.slice na k nc) (.string RT)) := FB
            have FR2 : Hid (EO (((u6.setCell ⟨w.heap.size, 0, none⟩ (.int .i64 (x0 : Int))).setCell ⟨w.heap.size, 1, none⟩ (.slice na k nc)).setCell ⟨w.heap.size, 2, none⟩ (.string RT)) w.heap.size 53 2 (.slice na k nc) k (pcF (sP (strB T)))) := FR
            have FA2 : Hid (Below w.heap.size w (((u6.setCell ⟨w.heap.size, 0, none⟩ (.int .i64 (x0 : Int))).setCell ⟨w.heap.size, 1, none⟩ (.slice na k nc)).setCell ⟨w.heap.size, 2, none⟩ (.string RT))) := FA
            clear g0 g1 g2 h0 h1 h2 FB FR FA X0 RV2 AB szz
            refine hK.out _ _ FH (fun _ => ?_)
            clear hK KK
            change wpAnyH _ _ _ _ _ _ _ { tmps := #[_, _, _, _, _, _, _, _, _, _, _, _, _, _, _, _, _, _, _, _, _, _, _, _, _, _, _, _, _, _, _, _, _, _, _, _, _, _, _, _, _, _, _, _, _, _, _, _, _, _, _, _, _, _, _, _, _, _, _, _, _], defers := _ } _
            generalize (((u6.setCell ⟨w.heap.size, 0, none⟩ (.int .i64 (x0 : Int))).setCell ⟨w.heap.size, 1, none⟩ (.slice na k nc)).setCell ⟨w.heap.size, 2, none⟩ (.string RT)) = u7 at *
            refine wpAnyH_take (i := 4) (v := .bool true) rfl (by kernel_rfl) (by kernel_rfl) (by kernel_rfl) (fun _ _ _ h => h) (Or.inl ⟨by rfl, ?_⟩) FH ?_
            · intro w' hSw; clear hSw; go_simp
            change wpAnyH _ _ _ _ _ _ _ { tmps := #[_, _, _, _, _, _, _, _, _, _, _, _, _, _, _, _, _, _, _, _, _, _, _, _, _, _, _, _, _, _, _, _, _, _, _, _, _, _, _, _, _, _, _, _, _, _, _, _, _, _, _, _, _, _, _, _, _, _, _, _, _], defers := _ } _
            refine wpAnyH_done (by kernel_rfl) ?_ _
            refine NoPanic.normal ?_
            clear H FH
            go_wp2
            exact ret_cell2 (b := w.heap.size) Try.results38 rfl rfl FB2.out.loadSup ⟨HRT.out _ FR2.out HRR.out, FA2.out⟩
          · have SK1 : Hid (∀ u : World, Els u 2 na k (pcF (sP (strB T))) → Calls Try.prog 8 #[.agg #[.int .i64 (x0 : Int), .slice na k nc, .string RT]] u fun e w' => e = .returned (.bool false) ∧ Below u.heap.size u w') := fun u he => SKK.out false u (gB_no hs).symm he
            have HRR : Hid (¬ RdS T.size (strB T)) := fun q => hs (HRD.out.1 q)
            clear SKK hs HRD
            have hbd : Below u4.heap.size u4 u4.drew := (Below.refl _ _).drew
            have H : Box3 u4.drew sb 29 (.int .i64 (x0 : Int)) (.slice na k nc) (.string RT) := XS2.out.below hbd
            replace X0 : Hid (Box3 u4.drew w.heap.size 29 (.int .i64 0) (.slice none 0 0) (.string ⟨#[]⟩)) := X0.out.below hbd
            replace RV2 : Hid (EO u4.drew (w.heap.size + 1) 53 2 (.slice na k nc) k (pcF (sP (strB T)))) := RV2.out.below hbd
            replace AB : Hid (Below w.heap.size w u4.drew) := AB.out.trans (hbd.mono AB.out.size)
            clear hbd XS2
            refine wp_region_noPanic ?_
            refine wp_region_held_drew (S := fun w' => Box3 w' sb 29 (.int .i64 (x0 : Int)) (.slice na k nc) (.string RT)) (by kernel_rfl) H (fun _ => ?_)
            generalize u4.drew = u5 at *
            refine wpAnyH_take (i := 0) (v := .agg #[.int .i64 (x0 : Int), .slice na k nc, .string RT]) rfl (by kernel_rfl) (by kernel_rfl) (by kernel_rfl) (fun _ _ _ h => h) (Or.inl ⟨by rfl, ?_⟩) H ?_
            · intro w' hSw; have t0 := hSw.c0; have t1 := hSw.c1; have t2 := hSw.c2; clear hSw; go_simp
            change wpAnyH _ _ _ _ _ _ _ { tmps := #[_, _, _, _, _, _, _, _, _, _, _, _, _, _, _, _, _, _, _, _, _, _, _, _, _, _, _, _, _, _, _, _, _, _, _, _, _, _, _, _, _, _, _, _, _, _, _, _, _, _, _, _, _, _, _, _, _, _, _, _, _], defers := _ } _
            refine wpAnyH_take (i := 1) (v := .agg #[.int .i64 (x0 : Int), .slice na k nc, .string RT]) rfl (by kernel_rfl) (by kernel_rfl) (by kernel_rfl) (fun _ _ _ h => h) (Or.inl ⟨by rfl, ?_⟩) H ?_
            · intro w' hSw; have t0 := hSw.c0; have t1 := hSw.c1; have t2 := hSw.c2; clear hSw; go_simp
            change wpAnyH _ _ _ _ _ _ _ { tmps := #[_, _, _, _, _, _, _, _, _, _, _, _, _, _, _, _, _, _, _, _, _, _, _, _, _, _, _, _, _, _, _, _, _, _, _, _, _, _, _, _, _, _, _, _, _, _, _, _, _, _, _, _, _, _, _, _, _, _, _, _, _], defers := _ } _
            refine wpAnyH_ready (rs := [2]) (by kernel_rfl) (by simp) ?_
            refine AllReadyH.cons rfl (fun KK hK => ?_) AllReadyH.nil
            go_simp
            refine Calls.mono (SK1.out _ RV2.out.els) ?_
            rintro e u6 ⟨rfl, hb⟩
            replace H : Box3 u6 sb 29 (.int .i64 (x0 : Int)) (.slice na k nc) (.string RT) := H.below hb
            replace X0 : Hid (Box3 u6 w.heap.size 29 (.int .i64 0) (.slice none 0 0) (.string ⟨#[]⟩)) := X0.out.below hb
            replace RV2 : Hid (EO u6 (w.heap.size + 1) 53 2 (.slice na k nc) k (pcF (sP (strB T)))) := RV2.out.below hb
            replace AB : Hid (Below w.heap.size w u6) := AB.out.trans (hb.mono AB.out.size)
            clear hb SK1
            refine hK.out _ _ H (fun _ => ?_)
            clear hK KK
            change wpAnyH _ _ _ _ _ _ _ { tmps := #[_, _, _, _, _, _, _, _, _, _, _, _, _, _, _, _, _, _, _, _, _, _, _, _, _, _, _, _, _, _, _, _, _, _, _, _, _, _, _, _, _, _, _, _, _, _, _, _, _, _, _, _, _, _, _, _, _, _, _, _, _], defers := _ } _
            refine wpAnyH_ready (rs := [3]) (by kernel_rfl) (by simp) ?_
            refine AllReadyH.cons rfl (fun KK hK => ?_) AllReadyH.nil
            have g0 := X0.out.c0
            have g1 := X0.out.c1
            have g2 := X0.out.c2
            have h0 := X0.out.fr 0
            have h1 := X0.out.fr 1
            have h2 := X0.out.fr 2
            go_simp
            have szz := SB.out
            have FB : Box3 (((u6.setCell ⟨w.heap.size, 0, none⟩ (.int .i64 (x0 : Int))).setCell ⟨w.heap.size, 1, none⟩ (.slice na k nc)).setCell ⟨w.heap.size, 2, none⟩ (.string RT)) w.heap.size 29 (.int .i64 (x0 : Int)) (.slice na k nc) (.string RT) := ((X0.out.set0 _).set1 _).set2 _
            have FH : Box3 (((u6.setCell ⟨w.heap.size, 0, none⟩ (.int .i64 (x0 : Int))).setCell ⟨w.heap.size, 1, none⟩ (.slice na k nc)).setCell ⟨w.heap.size, 2, none⟩ (.string RT)) sb 29 (.int .i64 (x0 : Int)) (.slice na k nc) (.string RT) := ((H.other (by show sb ≠ w.heap.size; omega) _).other (by show sb ≠ w.heap.size; omega) _).other (by show sb ≠ w.heap.size; omega) _
            have FR : EO (((u6.setCell ⟨w.heap.size, 0, none⟩ (.int .i64 (x0 : Int))).setCell ⟨w.heap.size, 1, none⟩ (.slice na k nc)).setCell ⟨w.heap.size, 2, none⟩ (.string RT)) w.heap.size 53 2 (.slice na k nc) k (pcF (sP (strB T))) := (RV2.out.keep (fun g e => by
              have := (RV2.out.ge g e).1
              exact ((heap_setOtherS _ _ (by show g ≠ w.heap.size; omega)).trans (heap_setOtherS _ _ (by show g ≠ w.heap.size; omega))).trans (heap_setOtherS _ _ (by show g ≠ w.heap.size; omega)))).mono (by omega)
            have FA : Below w.heap.size w (((u6.setCell ⟨w.heap.size, 0, none⟩ (.int .i64 (x0 : Int))).setCell ⟨w.heap.size, 1, none⟩ (.slice na k nc)).setCell ⟨w.heap.size, 2, none⟩ (.string RT)) := ((AB.out.setCell (by simp) _).setCell (by simp) _).setCell (by simp) _
            have FB2 : Hid (Box3 (((u6.setCell ⟨w.heap.size, 0, none⟩ (.int .i64 (x0 : Int))).setCell ⟨w.heap.size, 1, none⟩ (.slice na k nc)).setCell ⟨w.heap.size, 2, none⟩ (.string RT)) w.heap.size 29 (.int .i64 (x0 : Int)) (.slice na k nc) (.string RT)) := FB
            have FR2 : Hid (EO (((u6.setCell ⟨w.heap.size, 0, none⟩ (.int .i64 (x0 : Int))).setCell ⟨w.heap.size, 1, none⟩ (.slice na k nc)).setCell ⟨w.heap.size, 2, none⟩ (.string RT)) w.heap.size 53 2 (.slice na k nc) k (pcF (sP (strB T)))) := FR
            have FA2 : Hid (Below w.heap.size w (((u6.setCell ⟨w.heap.size, 0, none⟩ (.int .i64 (x0 : Int))).setCell ⟨w.heap.size, 1, none⟩ (.slice na k nc)).setCell ⟨w.heap.size, 2, none⟩ (.string RT))) := FA
            clear g0 g1 g2 h0 h1 h2 FB FR FA X0 RV2 AB szz
            refine hK.out _ _ FH (fun _ => ?_)
            clear hK KK
            change wpAnyH _ _ _ _ _ _ _ { tmps := #[_, _, _, _, _, _, _, _, _, _, _, _, _, _, _, _, _, _, _, _, _, _, _, _, _, _, _, _, _, _, _, _, _, _, _, _, _, _, _, _, _, _, _, _, _, _, _, _, _, _, _, _, _, _, _, _, _, _, _, _, _], defers := _ } _
            generalize (((u6.setCell ⟨w.heap.size, 0, none⟩ (.int .i64 (x0 : Int))).setCell ⟨w.heap.size, 1, none⟩ (.slice na k nc)).setCell ⟨w.heap.size, 2, none⟩ (.string RT)) = u7 at *
            refine wpAnyH_take (i := 4) (v := .bool false) rfl (by kernel_rfl) (by kernel_rfl) (by kernel_rfl) (fun _ _ _ h => h) (Or.inl ⟨by rfl, ?_⟩) FH ?_
            · intro w' hSw; clear hSw; go_simp
            change wpAnyH _ _ _ _ _ _ _ { tmps := #[_, _, _, _, _, _, _, _, _, _, _, _, _, _, _, _, _, _, _, _, _, _, _, _, _, _, _, _, _, _, _, _, _, _, _, _, _, _, _, _, _, _, _, _, _, _, _, _, _, _, _, _, _, _, _, _, _, _, _, _, _], defers := _ } _
            refine wpAnyH_done (by kernel_rfl) ?_ _
            refine NoPanic.normal ?_
            clear H FH
            go_wp2
            exact ret_cell2 (b := w.heap.size) Try.results38 rfl rfl FB2.out.loadSup ⟨HRF.out _ _ _ _ _ _ HRR.out, FA2.out⟩
    · have e34 : ((T.size : Int) != 34 + 3 * (n : Int)) = true := by simp; omega
      have GD : Hid (¬ RdS T.size (strB T)) := fun q => by
        have h1 := q.1
        rw [← HX0.out, ← HNN.out] at h1
        exact hT h1
      have g0 := X0.out.c0
      have g1 := X0.out.c1
      have g2 := X0.out.c2
      have g3 := X0.out.fr 0
      have g4 := X0.out.fr 1
      have g5 := X0.out.fr 2
      clear hT
      go_wp2
      have FB : Box3 (((v.setCell ⟨w.heap.size, 0, none⟩ (.int .i64 0)).setCell ⟨w.heap.size, 1, none⟩ (.slice none 0 0)).setCell ⟨w.heap.size, 2, none⟩ (.string ⟨#[]⟩)) w.heap.size 29 (.int .i64 0) (.slice none 0 0) (.string ⟨#[]⟩) := ((X0.out.set0 _).set1 _).set2 _
      have FA : Below w.heap.size w (((v.setCell ⟨w.heap.size, 0, none⟩ (.int .i64 0)).setCell ⟨w.heap.size, 1, none⟩ (.slice none 0 0)).setCell ⟨w.heap.size, 2, none⟩ (.string ⟨#[]⟩)) := ((AB.out.setCell (by simp) _).setCell (by simp) _).setCell (by simp) _
      exact ret_cell2 (b := w.heap.size) Try.results38 rfl rfl FB.loadSup ⟨.inr ⟨GD.out, _, _, _, _, _, rfl⟩, FA⟩
end Go.Proofs.Ytonccbgolbcjfab
