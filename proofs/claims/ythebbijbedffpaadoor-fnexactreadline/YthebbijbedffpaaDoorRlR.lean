/-
  impl.ReadLine.
-/
import Derived.Test.YthebbijbedffpaaDoorRlK
namespace Go.Proofs.YthebbijbedffpaaDoor
open Go.ChangeShapes Go.WideShapes Go.ChangeAt Go.RowKit
set_option linter.unusedVariables false
set_option maxRecDepth 100000 in
theorem isLong_any (s : ByteArray) (b : Bool) (hb : decide ((65536 : Int) < s.size) = b) (w : World) :
    Calls Tryd.prog 11 #[.string s] w fun e w' => e = .returned (.bool b) ∧ w' = w := by
  go_enter Tryd.func11, Tryd.ntmps11
  go_wp2
  go_ret
  subst hb
  exact ⟨rfl, rfl⟩
theorem mpW_below {B b n : Nat} {w W : World} (h : Below B w W) (hb : B ≤ b) : Below B w (mpW W b n) := ⟨h.os, h.tape, h.output, by simpa [mpW] using h.size, fun k hk => by
  have e : (mpW W b n).heap[k]? = W.heap[k]? := by unfold mpW; simp [show b ≠ k by omega]
  rw [e]; exact h.block k hk⟩
theorem cmd_enter (i : Nat) (hi : i < 13) (args : Array Value) (w : World) : (callFunc (cmdF i) args).run Tryd.prog w = .ok (.enter (cmdF i) args) w := by
  rcases (show i = 0 ∨ i = 1 ∨ i = 2 ∨ i = 3 ∨ i = 4 ∨ i = 5 ∨ i = 6 ∨ i = 7 ∨ i = 8 ∨ i = 9 ∨ i = 10 ∨ i = 11 ∨ i = 12 by omega) with rfl | rfl | rfl | rfl | rfl | rfl | rfl | rfl | rfl | rfl | rfl | rfl | rfl
  · exact Tryd.call12 args w
  · exact Tryd.call13 args w
  · exact Tryd.call14 args w
  · exact Tryd.call15 args w
  · exact Tryd.call16 args w
  · exact Tryd.call17 args w
  · exact Tryd.call18 args w
  · exact Tryd.call19 args w
  · exact Tryd.call20 args w
  · exact Tryd.call21 args w
  · exact Tryd.call22 args w
  · exact Tryd.call23 args w
  · exact Tryd.call24 args w
set_option maxRecDepth 100000 in
set_option maxHeartbeats 8000000 in
theorem implReadLine_any (s : ByteArray) (B : Nat) (w : World) (hB : B ≤ w.heap.size) (hE : EnvN B w) :
    Calls Tryd.prog 5 #[.string s] w fun e w' => e = .returned (.tuple #[lineV s, .int .i64 (lineC s)]) ∧ Below w.heap.size w w' := by
  have HE : Hid (EnvN B w) := hE
  clear hE
  go_enter Tryd.func5, Tryd.ntmps5
  by_cases hl : s.size ≤ 65536
  · have hl1 : ¬ (65536 : Int) < s.size := by omega
    go_wp2_with fail
    refine (isLong_any s false (decide_eq_false (by omega)) _).mono ?_
    rintro e w1 ⟨rfl, hw⟩; rw [hw]; clear hw w1
    go_wp2_with fail
    have V2 : Hid (VaB ((w.alloc (.cells #[.int .i64 0, .int .i64 0, .int .i64 0, .int .i64 0, .int .i64 0, .int .i64 0, .string ⟨#[]⟩, .string ⟨#[]⟩, .string ⟨#[]⟩, .string ⟨#[]⟩, .slice none 0 0, .int .i64 0, .bool false, .bool false] 26)).alloc (.cells #[.string s, .bool false] 37)) w.heap.size 0 0 clZ) := (VaB.made rfl).below ((Below.refl _ _).alloc (Nat.le_refl _) _)
    have R2 : Hid (LnR ((w.alloc (.cells #[.int .i64 0, .int .i64 0, .int .i64 0, .int .i64 0, .int .i64 0, .int .i64 0, .string ⟨#[]⟩, .string ⟨#[]⟩, .string ⟨#[]⟩, .string ⟨#[]⟩, .slice none 0 0, .int .i64 0, .bool false, .bool false] 26)).alloc (.cells #[.string s, .bool false] 37)) (w.heap.size + 1) s 0 false) := by
      have h := Box2.madeAt (w := w.alloc (.cells #[.int .i64 0, .int .i64 0, .int .i64 0, .int .i64 0, .int .i64 0, .int .i64 0, .string ⟨#[]⟩, .string ⟨#[]⟩, .string ⟨#[]⟩, .string ⟨#[]⟩, .slice none 0 0, .int .i64 0, .bool false, .bool false] 26)) (b := w.heap.size + 1) (by simp) 37 (.string s) (.bool false)
      unfold LnR
      rw [show s.extract 0 s.size = s from ByteArray.extract_zero_size]
      exact h
    have A2 : Hid (Below w.heap.size w ((w.alloc (.cells #[.int .i64 0, .int .i64 0, .int .i64 0, .int .i64 0, .int .i64 0, .int .i64 0, .string ⟨#[]⟩, .string ⟨#[]⟩, .string ⟨#[]⟩, .string ⟨#[]⟩, .slice none 0 0, .int .i64 0, .bool false, .bool false] 26)).alloc (.cells #[.string s, .bool false] 37))) := ((Below.refl _ _).alloc (Nat.le_refl _) _).alloc (by simp) _
    have Z2 : w.heap.size + 1 < ((w.alloc (.cells #[.int .i64 0, .int .i64 0, .int .i64 0, .int .i64 0, .int .i64 0, .int .i64 0, .string ⟨#[]⟩, .string ⟨#[]⟩, .string ⟨#[]⟩, .string ⟨#[]⟩, .slice none 0 0, .int .i64 0, .bool false, .bool false] 26)).alloc (.cells #[.string s, .bool false] 37)).heap.size := by simp
    generalize ((w.alloc (.cells #[.int .i64 0, .int .i64 0, .int .i64 0, .int .i64 0, .int .i64 0, .int .i64 0, .string ⟨#[]⟩, .string ⟨#[]⟩, .string ⟨#[]⟩, .string ⟨#[]⟩, .slice none 0 0, .int .i64 0, .bool false, .bool false] 26)).alloc (.cells #[.string s, .bool false] 37)) = w2 at *
    have H0 : Hid ((w2.alloc (.map #[] 0)).heap[w2.heap.size]? = some (.map #[] 0)) := (MapKept.heap_alloc w2 _).1
    have hmm := run_makeMap (P := Tryd.prog) 42 w2
    have m0 : (Instr.mapUpdate 42 (.map (some w2.heap.size)) (.string ⟨#[109, 111, 117, 110, 116]⟩) (.func (.func 12) #[] #[])).run Tryd.prog (w2.alloc (.map #[] 0)) = .ok () (mpW (w2.alloc (.map #[] 0)) w2.heap.size 1) := mp_first H0.out
    have m1 : (Instr.mapUpdate 42 (.map (some w2.heap.size)) (.string ⟨#[115, 121, 110, 99]⟩) (.func (.func 13) #[] #[])).run Tryd.prog (mpW (w2.alloc (.map #[] 0)) w2.heap.size 1) = .ok () (mpW (w2.alloc (.map #[] 0)) w2.heap.size 2) := mp_step (n := 1) H0.out (by omega)
    have m2 : (Instr.mapUpdate 42 (.map (some w2.heap.size)) (.string ⟨#[99, 114, 97, 115, 104]⟩) (.func (.func 14) #[] #[])).run Tryd.prog (mpW (w2.alloc (.map #[] 0)) w2.heap.size 2) = .ok () (mpW (w2.alloc (.map #[] 0)) w2.heap.size 3) := mp_step (n := 2) H0.out (by omega)
    have m3 : (Instr.mapUpdate 42 (.map (some w2.heap.size)) (.string ⟨#[117, 110, 109, 111, 117, 110, 116]⟩) (.func (.func 15) #[] #[])).run Tryd.prog (mpW (w2.alloc (.map #[] 0)) w2.heap.size 3) = .ok () (mpW (w2.alloc (.map #[] 0)) w2.heap.size 4) := mp_step (n := 3) H0.out (by omega)
    have m4 : (Instr.mapUpdate 42 (.map (some w2.heap.size)) (.string ⟨#[115, 97, 118, 101]⟩) (.func (.func 16) #[] #[])).run Tryd.prog (mpW (w2.alloc (.map #[] 0)) w2.heap.size 4) = .ok () (mpW (w2.alloc (.map #[] 0)) w2.heap.size 5) := mp_step (n := 4) H0.out (by omega)
    have m5 : (Instr.mapUpdate 42 (.map (some w2.heap.size)) (.string ⟨#[114, 111, 108, 108, 98, 97, 99, 107]⟩) (.func (.func 17) #[] #[])).run Tryd.prog (mpW (w2.alloc (.map #[] 0)) w2.heap.size 5) = .ok () (mpW (w2.alloc (.map #[] 0)) w2.heap.size 6) := mp_step (n := 5) H0.out (by omega)
    have m6 : (Instr.mapUpdate 42 (.map (some w2.heap.size)) (.string ⟨#[109, 107, 100, 105, 114]⟩) (.func (.func 18) #[] #[])).run Tryd.prog (mpW (w2.alloc (.map #[] 0)) w2.heap.size 6) = .ok () (mpW (w2.alloc (.map #[] 0)) w2.heap.size 7) := mp_step (n := 6) H0.out (by omega)
    have m7 : (Instr.mapUpdate 42 (.map (some w2.heap.size)) (.string ⟨#[119, 114, 105, 116, 101]⟩) (.func (.func 19) #[] #[])).run Tryd.prog (mpW (w2.alloc (.map #[] 0)) w2.heap.size 7) = .ok () (mpW (w2.alloc (.map #[] 0)) w2.heap.size 8) := mp_step (n := 7) H0.out (by omega)
    have m8 : (Instr.mapUpdate 42 (.map (some w2.heap.size)) (.string ⟨#[114, 101, 97, 100]⟩) (.func (.func 20) #[] #[])).run Tryd.prog (mpW (w2.alloc (.map #[] 0)) w2.heap.size 8) = .ok () (mpW (w2.alloc (.map #[] 0)) w2.heap.size 9) := mp_step (n := 8) H0.out (by omega)
    have m9 : (Instr.mapUpdate 42 (.map (some w2.heap.size)) (.string ⟨#[99, 117, 116]⟩) (.func (.func 21) #[] #[])).run Tryd.prog (mpW (w2.alloc (.map #[] 0)) w2.heap.size 9) = .ok () (mpW (w2.alloc (.map #[] 0)) w2.heap.size 10) := mp_step (n := 9) H0.out (by omega)
    have m10 : (Instr.mapUpdate 42 (.map (some w2.heap.size)) (.string ⟨#[109, 111, 118, 101]⟩) (.func (.func 22) #[] #[])).run Tryd.prog (mpW (w2.alloc (.map #[] 0)) w2.heap.size 10) = .ok () (mpW (w2.alloc (.map #[] 0)) w2.heap.size 11) := mp_step (n := 10) H0.out (by omega)
    have m11 : (Instr.mapUpdate 42 (.map (some w2.heap.size)) (.string ⟨#[114, 109]⟩) (.func (.func 23) #[] #[])).run Tryd.prog (mpW (w2.alloc (.map #[] 0)) w2.heap.size 11) = .ok () (mpW (w2.alloc (.map #[] 0)) w2.heap.size 12) := mp_step (n := 11) H0.out (by omega)
    have m12 : (Instr.mapUpdate 42 (.map (some w2.heap.size)) (.string ⟨#[108, 115]⟩) (.func (.func 24) #[] #[])).run Tryd.prog (mpW (w2.alloc (.map #[] 0)) w2.heap.size 12) = .ok () (mpW (w2.alloc (.map #[] 0)) w2.heap.size 13) := mp_step (n := 12) H0.out (by omega)
    rw [hmm]
    go_wp2_with fail
    clear hmm m0 m1 m2 m3 m4 m5 m6 m7 m8 m9 m10 m11 m12
    have ev : ∀ k, k < w2.heap.size → (mpW (w2.alloc (.map #[] 0)) w2.heap.size 13).heap[k]? = w2.heap[k]? := fun k hk => (mpW_else H0.out 13 k (by omega)).trans ((MapKept.heap_alloc w2 _).2 k hk)
    have M3 : Hid ((mpW (w2.alloc (.map #[] 0)) w2.heap.size 13).heap[w2.heap.size]? = some (.map (mpE 13) 13)) := mpW_at H0.out 13
    have V3 : Hid (VaB (mpW (w2.alloc (.map #[] 0)) w2.heap.size 13) w.heap.size 0 0 clZ) := V2.out.ofBlock (ev _ (by omega))
    have R3 : Hid (LnR (mpW (w2.alloc (.map #[] 0)) w2.heap.size 13) (w.heap.size + 1) s 0 false) := Box2.ofBlock R2.out (ev _ Z2)
    have A3 : Hid (Below w.heap.size w (mpW (w2.alloc (.map #[] 0)) w2.heap.size 13)) := mpW_below (A2.out.alloc (by omega) _) (by omega)
    clear ev H0 V2 R2 A2
    generalize mpW (w2.alloc (.map #[] 0)) w2.heap.size 13 = w3 at *
    obtain ⟨b, hb⟩ : ∃ b, b = w2.heap.size := ⟨_, rfl⟩
    rw [← hb] at M3 Z2
    rw [← hb]
    clear hb w2
    refine (word_any s hl 0 false (w.heap.size + 1) w3 R3.out).mono ?_
    rintro e w4 ⟨rfl, h4, o4⟩
    have M4 : Hid (w4.heap[b]? = some (.map (mpE 13) 13)) := (o4.block b (Array.getElem?_eq_some_iff.1 M3.out).1 (by omega)).trans M3.out
    have V4 : Hid (VaB w4 w.heap.size 0 0 clZ) := V3.out.onlyB o4 (by omega)
    have A4 : Hid (Below w.heap.size w w4) := A3.out.trans (o4.toBelow (Nat.le_succ _) A3.out.size)
    clear M3 V3 R3 A3 o4 Z2
    obtain ⟨l1, l2⟩ := mp_look M4.out (wW s 0)
    rcases cmd_cases (wW s 0) with ⟨hn, _⟩ | ⟨i, hi, hci, hct⟩
    · have l3 := l1 hn
      clear l1 l2
      obtain ⟨v0, v1, v2, v3, v4, v5, v6, v7, v8, v9, v10, v11, v12, v13⟩ := V4.out.c
      have f0 := V4.out.fr
      go_wp2
      change bodyPost _ _ _ .ret _ (World.setCells w4 w.heap.size 0 (vaL 0 0 clZ))
      refine ret_cell2 (b := w.heap.size) (v := vaV 0 0 clZ) (x := .int .i64 3) Tryd.results5 rfl rfl (V4.out.st 0 0 clZ).load ⟨?_, vaL_below A4.out (Nat.le_refl _) 0 0 clZ⟩
      rw [lineV, lineC, if_pos hl, if_pos hl, lineA, hn]
      rfl
    · have l3 := l2 i hi hct
      clear l1 l2
      have hA : lineA s = ansI i s (wN s 0) := by rw [lineA, hci]; rfl
      cases hw0 : hasW s 0 with
      | false =>
        exfalso
        rw [wW_out hw0] at hct
        exact no_empty i hi hct
      | true =>
        rw [hw0] at h4
        go_wp2_with fail
        rw [cmd_enter i hi, Oper.upon_enter]
        refine (call_any i hi s hl (wN s 0) (w.heap.size + 1) B (by omega) w4 h4 (HE.out.on (A4.out.mono hB))).mono ?_
        rintro e w5 ⟨k, c, x, o', wr', rfl, h5, o5, ha⟩
        clear l3
        have V5 : Hid (VaB w5 w.heap.size 0 0 clZ) := V4.out.onlyB o5 (by omega)
        have A5 : Hid (Below w.heap.size w w5) := A4.out.trans (o5.toBelow (Nat.le_succ _) A4.out.size)
        clear V4 A4 M4 h4 o5
        have R6 : Hid (LnR (w5.alloc (.cells #[.int .i64 k, .int .i64 0, .int .i64 c, .int .i64 x.k, .int .i64 x.a, .int .i64 x.n, .string x.p, .string x.o, .string x.d, .string ⟨#[]⟩, .slice none 0 0, .int .i64 0, .bool false, .bool false] 26)) (w.heap.size + 1) s o' wr') := h5.alloc _
        have V6 : Hid (VaB (w5.alloc (.cells #[.int .i64 k, .int .i64 0, .int .i64 c, .int .i64 x.k, .int .i64 x.a, .int .i64 x.n, .string x.p, .string x.o, .string x.d, .string ⟨#[]⟩, .slice none 0 0, .int .i64 0, .bool false, .bool false] 26)) w.heap.size 0 0 clZ) := V5.out.below ((Below.refl _ _).alloc (Nat.le_refl _) _)
        have A6 : Hid (Below w.heap.size w (w5.alloc (.cells #[.int .i64 k, .int .i64 0, .int .i64 c, .int .i64 x.k, .int .i64 x.a, .int .i64 x.n, .string x.p, .string x.o, .string x.d, .string ⟨#[]⟩, .slice none 0 0, .int .i64 0, .bool false, .bool false] 26))) := A5.out.alloc A5.out.size _
        have X6 : Hid (VaB (w5.alloc (.cells #[.int .i64 k, .int .i64 0, .int .i64 c, .int .i64 x.k, .int .i64 x.a, .int .i64 x.n, .string x.p, .string x.o, .string x.d, .string ⟨#[]⟩, .slice none 0 0, .int .i64 0, .bool false, .bool false] 26)) w5.heap.size k c x) := VaB.madeOf k c x rfl
        have Z6 : w.heap.size < w5.heap.size := V5.out.lt
        have tok : True := trivial
        clear V5 A5 h5
        unfold vaV
        cases wr' with
        | true =>
          go_wp2_with (show wpList _ _ _ ({ dst := some 25, op := _, type := _, pos := _, after := _, guard := _ } :: _) _ _; clear tok; generalize w5.alloc (.cells #[.int .i64 k, .int .i64 0, .int .i64 c, .int .i64 x.k, .int .i64 x.a, .int .i64 x.n, .string x.p, .string x.o, .string x.d, .string ⟨#[]⟩, .slice none 0 0, .int .i64 0, .bool false, .bool false] 26) = w6 at *; have r0 := R6.out.c1; obtain ⟨v0, v1, v2, v3, v4, v5, v6, v7, v8, v9, v10, v11, v12, v13⟩ := V6.out.c; have f0 := V6.out.fr)
          rename World => w6
          change bodyPost _ _ _ .ret _ (World.setCells w6 w.heap.size 0 (vaL 0 0 clZ))
          refine ret_cell2 (b := w.heap.size) (v := vaV 0 0 clZ) (x := .int .i64 3) Tryd.results5 rfl rfl (V6.out.st 0 0 clZ).load ⟨?_, vaL_below A6.out (Nat.le_refl _) 0 0 clZ⟩
          rw [lineV, lineC, if_pos hl, if_pos hl, hA, ha]
          rfl
        | false =>
          have r0 := R6.out.c1
          go_wp2_with fail
          refine (hasWord_any s hl o' false (w.heap.size + 1) _ R6.out).mono ?_
          rintro e w7 ⟨rfl, hh, b7⟩
          have V7 : Hid (VaB w7 w.heap.size 0 0 clZ) := V6.out.below b7
          have X7 : Hid (VaB w7 w5.heap.size k c x) := X6.out.below b7
          have A7 : Hid (Below w.heap.size w w7) := A6.out.trans (b7.mono A6.out.size)
          clear V6 X6 A6 R6 r0 hh b7 tok
          cases hh : hasW s o' with
          | true =>
            rw [hh] at ha
            obtain ⟨v0, v1, v2, v3, v4, v5, v6, v7, v8, v9, v10, v11, v12, v13⟩ := V7.out.c
            have f0 := V7.out.fr
            go_wp2
            change bodyPost _ _ _ .ret _ (World.setCells w7 w.heap.size 0 (vaL 0 0 clZ))
            refine ret_cell2 (b := w.heap.size) (v := vaV 0 0 clZ) (x := .int .i64 3) Tryd.results5 rfl rfl (V7.out.st 0 0 clZ).load ⟨?_, vaL_below A7.out (Nat.le_refl _) 0 0 clZ⟩
            rw [lineV, lineC, if_pos hl, if_pos hl, hA, ha]
            rfl
          | false =>
            rw [hh] at ha
            obtain ⟨u0, u1, u2, u3, u4, u5, u6, u7, u8, u9, u10, u11, u12, u13⟩ := X7.out.c
            obtain ⟨v0, v1, v2, v3, v4, v5, v6, v7, v8, v9, v10, v11, v12, v13⟩ := V7.out.c
            have f0 := V7.out.fr
            go_wp2
            change bodyPost _ _ _ .ret _ (World.setCells w7 w.heap.size 0 (vaL k c x))
            refine ret_cell2 (b := w.heap.size) (v := vaV k c x) (x := .int .i64 0) Tryd.results5 rfl rfl (V7.out.st k c x).load ⟨?_, vaL_below A7.out (Nat.le_refl _) k c x⟩
            rw [lineV, lineC, if_pos hl, if_pos hl, hA, ha]
            rfl
  · have hl1 : (65536 : Int) < s.size := by omega
    go_wp2_with fail
    refine (isLong_any s true (decide_eq_true (by omega)) _).mono ?_
    rintro e w1 ⟨rfl, hw⟩; rw [hw]; clear hw w1
    go_wp2
    refine ret_cell2 (b := w.heap.size) (v := vaV 0 0 clZ) (x := .int .i64 2) Tryd.results5 rfl rfl (VaB.made rfl).load ⟨?_, (Below.refl _ _).alloc (Nat.le_refl _) _⟩
    rw [lineV, lineC, if_neg hl, if_neg hl]
    rfl
end Go.Proofs.YthebbijbedffpaaDoor
