/-
  ReadSuper of the model and both together (written by tools/mkrsl.py).
-/
import Derived.Test.YtonccbgolbcjfabRdSup
import Derived.Test.YtonccbgolbcjfabRdSupS
namespace Go.Proofs.Ytonccbgolbcjfab
open Go.ChangeShapes Go.WideShapes Go.ChangeAt Go.RowKit
set_option linter.unusedVariables false
set_option maxRecDepth 100000 in
theorem implReadSuper_long (a : Option Addr) (N c : Nat) (hN : 65536 < N) (w : World) : Calls Try.prog 20 #[.slice a N c] w fun e w' => RetS0 e 2 ∧ Below w.heap.size w w' := by
  have n1 : (65536 : Int) < (N : Int) := by omega
  have X : Hid (Box3 (w.alloc (.cells #[.int .i64 0, .slice none 0 0, .string ⟨#[]⟩] 29)) w.heap.size 29 (.int .i64 0) (.slice none 0 0) (.string ⟨#[]⟩)) := Box3.made _ _ _ _ _
  go_enter Try.func20, Try.ntmps20
  go_wp2
  exact ret_cell2 (b := w.heap.size) Try.results20 rfl rfl X.out.loadSup ⟨rfl, (Below.refl _ _).alloc (Nat.le_refl _) _⟩
set_option maxRecDepth 100000 in
theorem specReadSuper_long (a : Option Addr) (N c : Nat) (hN : 65536 < N) (w : World) : Calls Try.prog 18 #[.slice a N c] w fun e w' => RetS0 e 2 ∧ Below w.heap.size w w' := by
  have n1 : (65536 : Int) < (N : Int) := by omega
  have X : Hid (Box3 (w.alloc (.cells #[.int .i64 0, .slice none 0 0, .string ⟨#[]⟩] 29)) w.heap.size 29 (.int .i64 0) (.slice none 0 0) (.string ⟨#[]⟩)) := Box3.made _ _ _ _ _
  go_enter Try.func18, Try.ntmps18
  go_wp2
  exact ret_cell2 (b := w.heap.size) Try.results18 rfl rfl X.out.loadSup ⟨rfl, (Below.refl _ _).alloc (Nat.le_refl _) _⟩
set_option maxRecDepth 100000 in
set_option maxHeartbeats 4000000 in
theorem specReadSuper_is (T : ByteArray) (b o c : Nat) (hN : T.size ≤ 65536) (w : World) (h : Code8 w (some ⟨b, o, none⟩) T.size (strB T)) :
    Calls Try.prog 18 #[.slice (some ⟨b, o, none⟩) T.size c] w fun e w' => ((RdS T.size (strB T) ∧ RetSu w w' e (strB T)) ∨ (¬ RdS T.size (strB T) ∧ RetS0 e 3)) ∧ Below w.heap.size w w' := by
  have n1 : ¬ (65536 : Int) < (T.size : Int) := by omega
  have AB : Hid (Below w.heap.size w (w.alloc (.cells #[.int .i64 0, .slice none 0 0, .string ⟨#[]⟩] 29))) := (Below.refl _ _).alloc (Nat.le_refl _) _
  have X0 : Hid (Box3 (w.alloc (.cells #[.int .i64 0, .slice none 0 0, .string ⟨#[]⟩] 29)) w.heap.size 29 (.int .i64 0) (.slice none 0 0) (.string ⟨#[]⟩)) := Box3.made _ _ _ _ _
  have hcv : (convert 33 9 (.slice (some ⟨b, o, none⟩) T.size c)).run Try.prog (w.alloc (.cells #[.int .i64 0, .slice none 0 0, .string ⟨#[]⟩] 29)) = .ok (.string T) (w.alloc (.cells #[.int .i64 0, .slice none 0 0, .string ⟨#[]⟩] 29)) := by
    have := kstr_of_code (c := c) (h.below AB.out)
    rwa [kstr_self] at this
  have LR : Hid (∀ w : World, Calls Try.prog 38 #[.string T] w fun e w' => L12A w w' e T ∧ Below w.heap.size w w') := fun w => l12Read_any T hN w
  have SZ : Hid (w.heap.size < (w.alloc (.cells #[.int .i64 0, .slice none 0 0, .string ⟨#[]⟩] 29)).heap.size) := by show _ < _; simp
  clear h
  go_enter Try.func18, Try.ntmps18
  go_wp2_with fail
  clear hcv
  generalize w.alloc (.cells #[.int .i64 0, .slice none 0 0, .string ⟨#[]⟩] 29) = u at *
  refine (LR.out _).mono ?_
  rintro e v ⟨hl, hb⟩
  clear LR
  replace AB : Hid (Below w.heap.size w v) := AB.out.trans (hb.mono AB.out.size)
  replace X0 : Hid (Box3 v w.heap.size 29 (.int .i64 0) (.slice none 0 0) (.string ⟨#[]⟩)) := X0.out.below hb
  have SV : Hid (w.heap.size < v.heap.size) := Nat.lt_of_lt_of_le SZ.out hb.size
  rcases hl with ⟨hr, a, c2, rfl, ho⟩ | ⟨hr, x1, a1, m1, c1, r1, rfl⟩
  · have HR : Hid (RdS T.size (strB T)) := hr
    have RT : Hid (∀ w', EO w' w.heap.size 53 2 (.slice a (pcsN (sZ (strB T))) c2) (pcsN (sZ (strB T))) (pcF (sP (strB T))) → RetSu w w' (.returned (.tuple #[.agg #[.int .i64 (sZ (strB T) : Nat), .slice a (pcsN (sZ (strB T))) c2, .string (sR (strB T))], .int .i64 0])) (strB T)) := fun w' q => ⟨a, c2, rfl, q⟩
    generalize hnn : pcsN (sZ (strB T)) = nn at *
    generalize hzz : sZ (strB T) = zz at *
    generalize hrr : sR (strB T) = rr at *
    have HO : Hid (EO v u.heap.size 53 2 (.slice a nn c2) nn (pcF (sP (strB T)))) := ho
    clear ho hr hnn hzz hrr hb
    have hb : Below v.heap.size v (v.alloc (.cells #[.int .i64 (zz : Int), .slice a nn c2, .string rr] 29)) := (Below.refl _ _).alloc (Nat.le_refl _) _
    have XB : Hid (Box3 (v.alloc (.cells #[.int .i64 (zz : Int), .slice a nn c2, .string rr] 29)) v.heap.size 29 (.int .i64 (zz : Int)) (.slice a nn c2) (.string rr)) := Box3.made _ _ _ _ _
    replace X0 : Hid (Box3 (v.alloc (.cells #[.int .i64 (zz : Int), .slice a nn c2, .string rr] 29)) w.heap.size 29 (.int .i64 0) (.slice none 0 0) (.string ⟨#[]⟩)) := X0.out.below hb
    replace HO : Hid (EO (v.alloc (.cells #[.int .i64 (zz : Int), .slice a nn c2, .string rr] 29)) u.heap.size 53 2 (.slice a nn c2) nn (pcF (sP (strB T)))) := HO.out.below hb
    replace AB : Hid (Below w.heap.size w (v.alloc (.cells #[.int .i64 (zz : Int), .slice a nn c2, .string rr] 29))) := AB.out.trans (hb.mono AB.out.size)
    clear hb
    have c0 := XB.out.c0
    have c1 := XB.out.c1
    have c3 := XB.out.c2
    have g0 := X0.out.c0
    have g1 := X0.out.c1
    have g2 := X0.out.c2
    have g3 := X0.out.fr 0
    have g4 := X0.out.fr 1
    have g5 := X0.out.fr 2
    go_wp2
    have FB : Box3 ((((v.alloc (.cells #[.int .i64 (zz : Int), .slice a nn c2, .string rr] 29)).setCell ⟨w.heap.size, 0, none⟩ (.int .i64 (zz : Int))).setCell ⟨w.heap.size, 1, none⟩ (.slice a nn c2)).setCell ⟨w.heap.size, 2, none⟩ (.string rr)) w.heap.size 29 (.int .i64 (zz : Int)) (.slice a nn c2) (.string rr) := ((X0.out.set0 _).set1 _).set2 _
    have FA : Below w.heap.size w ((((v.alloc (.cells #[.int .i64 (zz : Int), .slice a nn c2, .string rr] 29)).setCell ⟨w.heap.size, 0, none⟩ (.int .i64 (zz : Int))).setCell ⟨w.heap.size, 1, none⟩ (.slice a nn c2)).setCell ⟨w.heap.size, 2, none⟩ (.string rr)) := ((AB.out.setCell (by simp) _).setCell (by simp) _).setCell (by simp) _
    have FR : EO ((((v.alloc (.cells #[.int .i64 (zz : Int), .slice a nn c2, .string rr] 29)).setCell ⟨w.heap.size, 0, none⟩ (.int .i64 (zz : Int))).setCell ⟨w.heap.size, 1, none⟩ (.slice a nn c2)).setCell ⟨w.heap.size, 2, none⟩ (.string rr)) w.heap.size 53 2 (.slice a nn c2) nn (pcF (sP (strB T))) := (HO.out.keep (fun g e => by
      have h1 := (HO.out.ge g e).1
      have h2 := SZ.out
      exact ((heap_setOtherS _ _ (by show g ≠ w.heap.size; omega)).trans (heap_setOtherS _ _ (by show g ≠ w.heap.size; omega))).trans (heap_setOtherS _ _ (by show g ≠ w.heap.size; omega)))).mono (by have := SZ.out; omega)
    exact ret_cell2 (b := w.heap.size) Try.results18 rfl rfl FB.loadSup ⟨.inl ⟨HR.out, RT.out _ FR⟩, FA⟩
  · have HR : Hid (¬ RdS T.size (strB T)) := hr
    clear hr hb
    have hb : Below v.heap.size v (v.alloc (.cells #[.int .i64 x1, .slice a1 m1 c1, .string r1] 29)) := (Below.refl _ _).alloc (Nat.le_refl _) _
    replace X0 : Hid (Box3 (v.alloc (.cells #[.int .i64 x1, .slice a1 m1 c1, .string r1] 29)) w.heap.size 29 (.int .i64 0) (.slice none 0 0) (.string ⟨#[]⟩)) := X0.out.below hb
    replace AB : Hid (Below w.heap.size w (v.alloc (.cells #[.int .i64 x1, .slice a1 m1 c1, .string r1] 29))) := AB.out.trans (hb.mono AB.out.size)
    clear hb
    have g0 := X0.out.c0
    have g1 := X0.out.c1
    have g2 := X0.out.c2
    have g3 := X0.out.fr 0
    have g4 := X0.out.fr 1
    have g5 := X0.out.fr 2
    go_wp2
    have FB : Box3 ((((v.alloc (.cells #[.int .i64 x1, .slice a1 m1 c1, .string r1] 29)).setCell ⟨w.heap.size, 0, none⟩ (.int .i64 0)).setCell ⟨w.heap.size, 1, none⟩ (.slice none 0 0)).setCell ⟨w.heap.size, 2, none⟩ (.string ⟨#[]⟩)) w.heap.size 29 (.int .i64 0) (.slice none 0 0) (.string ⟨#[]⟩) := ((X0.out.set0 _).set1 _).set2 _
    have FA : Below w.heap.size w ((((v.alloc (.cells #[.int .i64 x1, .slice a1 m1 c1, .string r1] 29)).setCell ⟨w.heap.size, 0, none⟩ (.int .i64 0)).setCell ⟨w.heap.size, 1, none⟩ (.slice none 0 0)).setCell ⟨w.heap.size, 2, none⟩ (.string ⟨#[]⟩)) := ((AB.out.setCell (by simp) _).setCell (by simp) _).setCell (by simp) _
    exact ret_cell2 (b := w.heap.size) Try.results18 rfl rfl FB.loadSup ⟨.inr ⟨HR.out, rfl⟩, FA⟩
theorem row_of_ret {w w' : World} {e : Ending} {f : Nat → Nat} (h : RetSu w w' e f) : ∃ a x g, e = .returned (.tuple #[.agg #[.int .i64 (sZ f : Nat), .slice a (pcsN (sZ f)) x, .string (sR f)], .int .i64 0]) ∧ RowE w' 2 a g (pcsN (sZ f)) (pcF (sP f)) ∧ (0 < pcsN (sZ f) → w.heap.size ≤ g ∧ g < w'.heap.size) := by
  obtain ⟨a, c, he, h0⟩ := h
  obtain ⟨g, r0, b0⟩ := h0.rowE
  exact ⟨a, c, g, he, r0, fun q => ⟨b0 q, r0.lt (by omega) q⟩⟩
theorem row_of_no {w w' : World} {e : Ending} {cd : Int} (h : RetS0 e cd) : ∃ a x g, e = .returned (.tuple #[.agg #[.int .i64 0, .slice a 0 x, .string ⟨#[]⟩], .int .i64 cd]) ∧ RowE w' 2 a g 0 (pcF (fun _ => pcZ)) ∧ (0 < 0 → w.heap.size ≤ g ∧ g < w'.heap.size) := ⟨none, 0, 0, h, RowE.nil _ _ _ _ _, fun q => absurd q (by omega)⟩
/-- The answers of both, alike. -/
theorem rs_some (T : ByteArray) : ∃ (z : Int) (n : Nat) (P : Nat → Plc) (r : ByteArray) (cd : Int), n ≤ 1100 ∧ (∀ (b o c : Nat) (w : World), Code8 w (some ⟨b, o, none⟩) T.size (strB T) → Calls Try.prog 18 #[.slice (some ⟨b, o, none⟩) T.size c] w fun e w' => (∃ a x g, e = .returned (.tuple #[.agg #[.int .i64 z, .slice a n x, .string r], .int .i64 cd]) ∧ RowE w' 2 a g n (pcF P) ∧ (0 < n → w.heap.size ≤ g ∧ g < w'.heap.size)) ∧ Below w.heap.size w w') ∧ (∀ (b o c : Nat) (w : World), T.size ≤ c → Code8 w (some ⟨b, o, none⟩) T.size (strB T) → Calls Try.prog 20 #[.slice (some ⟨b, o, none⟩) T.size c] w fun e w' => (∃ a x g, e = .returned (.tuple #[.agg #[.int .i64 z, .slice a n x, .string r], .int .i64 cd]) ∧ RowE w' 2 a g n (pcF P) ∧ (0 < n → w.heap.size ≤ g ∧ g < w'.heap.size)) ∧ Below w.heap.size w w') := by
  by_cases hN : T.size ≤ 65536
  · by_cases hG : RdS T.size (strB T)
    · refine ⟨(sZ (strB T) : Nat), pcsN (sZ (strB T)), sP (strB T), sR (strB T), 0, ?_, fun b o c w h => (specReadSuper_is T b o c hN w h).mono ?_, fun b o c w hc h => (implReadSuper_is (some ⟨b, o, none⟩) T.size c (strB T) (strB_lt T) hN hc w h).mono ?_⟩
      rotate_left
      · rintro e w' ⟨⟨_, hr⟩ | ⟨hn, _⟩, hb⟩
        · exact ⟨row_of_ret hr, hb⟩
        · exact absurd hG hn
      · rintro e w' ⟨⟨_, hr⟩ | ⟨hn, _⟩, hb⟩
        · exact ⟨row_of_ret hr, hb⟩
        · exact absurd hG hn
      · have hxl : sZ (strB T) < 256 ^ 2 := valN_lt _ (fun i => strB_lt T _) 2
        unfold pcsN
        omega
    · refine ⟨0, 0, (fun _ => pcZ), ⟨#[]⟩, 3, Nat.zero_le _, fun b o c w h => (specReadSuper_is T b o c hN w h).mono ?_, fun b o c w hc h => (implReadSuper_is (some ⟨b, o, none⟩) T.size c (strB T) (strB_lt T) hN hc w h).mono ?_⟩
      · rintro e w' ⟨⟨hn, _⟩ | ⟨_, hr⟩, hb⟩
        · exact absurd hn hG
        · exact ⟨row_of_no hr, hb⟩
      · rintro e w' ⟨⟨hn, _⟩ | ⟨_, hr⟩, hb⟩
        · exact absurd hn hG
        · exact ⟨row_of_no hr, hb⟩
  · refine ⟨0, 0, (fun _ => pcZ), ⟨#[]⟩, 2, Nat.zero_le _, fun b o c w h => (specReadSuper_long _ T.size c (by omega) w).mono ?_, fun b o c w hc h => (implReadSuper_long _ T.size c (by omega) w).mono ?_⟩
    · rintro e w' ⟨hr, hb⟩
      exact ⟨row_of_no hr, hb⟩
    · rintro e w' ⟨hr, hb⟩
      exact ⟨row_of_no hr, hb⟩
end Go.Proofs.Ytonccbgolbcjfab
