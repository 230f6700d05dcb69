/-
  The law: ReadLine answers as the specification, line by line.
-/
import Derived.Test.YthebbijbedffpaaDoorRlX
import Derived.Test.YthebbijbedffpaaDoorRlR
namespace Go.Proofs.YthebbijbedffpaaDoor
open Go.ChangeShapes Go.WideShapes Go.ChangeAt Go.RowKit
set_option linter.unusedVariables false
set_option maxRecDepth 100000 in
set_option maxHeartbeats 2000000 in
theorem eqFileCall_cl (x : Cl) (w : World) :
    Calls Tryd.prog 27 #[clA x, clA x] w fun e w' => e = .returned (.bool true) ∧ Below w.heap.size w w' := by
  obtain ⟨xk, xa, xn, xp, xo, xd⟩ := x
  unfold clA
  go_enter Tryd.func27, Tryd.ntmps27
  go_wp2
  go_ret
  exact ⟨rfl, ((Below.refl _ _).alloc (Nat.le_refl _) _).alloc (by simp) _⟩
set_option maxRecDepth 100000 in
theorem eqBoolS_nil (w : World) :
    Calls Tryd.prog 28 #[.slice none 0 0, .slice none 0 0] w fun e w' => e = .returned (.bool true) ∧ w' = w := by
  go_enter Tryd.func28, Tryd.ntmps28
  go_wp2
  go_loopw [5] (fun i wr => i = .int .i64 0 ∧ wr = w) (fun _ _ => 0)
  case atStart => exact ⟨rfl, rfl⟩
  case round =>
    obtain ⟨rfl, hw⟩ := hrel
    have HW : Hid (wr = w) := hw
    clear hw
    go_wp2
    go_ret
    exact ⟨rfl, HW.out⟩
set_option maxRecDepth 100000 in
theorem markBoolS_nil (m : Int) (w : World) :
    Calls Tryd.prog 29 #[.slice none 0 0, .int .i64 m] w fun e w' => e = .returned (.int .i64 m) ∧ w' = w := by
  go_enter Tryd.func29, Tryd.ntmps29
  go_wp2
  go_loopw [1, 5] (fun v i wr => v = .int .i64 m ∧ i = .int .i64 0 ∧ wr = w) (fun _ _ _ => 0)
  case atStart => exact ⟨rfl, rfl, rfl⟩
  case round =>
    obtain ⟨rfl, rfl, hw⟩ := hrel
    have HW : Hid (wr = w) := hw
    clear hw
    go_wp2
    go_ret
    exact ⟨rfl, HW.out⟩
set_option maxRecDepth 100000 in
theorem heldBoolS_nil (m : Int) (w : World) :
    Calls Tryd.prog 30 #[.slice none 0 0, .int .i64 m] w fun e w' => e = .returned (.int .i64 m) ∧ w' = w := by
  go_enter Tryd.func30, Tryd.ntmps30
  go_wp2
  go_loopw [1, 5] (fun v i wr => v = .int .i64 m ∧ i = .int .i64 0 ∧ wr = w) (fun _ _ _ => 0)
  case atStart => exact ⟨rfl, rfl, rfl⟩
  case round =>
    obtain ⟨rfl, rfl, hw⟩ := hrel
    have HW : Hid (wr = w) := hw
    clear hw
    go_wp2
    go_ret
    exact ⟨rfl, HW.out⟩
set_option maxRecDepth 100000 in
set_option maxHeartbeats 2000000 in
theorem markVa_any (k c : Int) (x : Cl) (w : World) :
    Calls Tryd.prog 7 #[vaV k c x, .int .i64 1] w fun e w' => e = .returned (.int .i64 1) ∧ Below w.heap.size w w' := by
  obtain ⟨xk, xa, xn, xp, xo, xd⟩ := x
  unfold vaV
  go_enter Tryd.func7, Tryd.ntmps7
  go_wp2_with fail
  refine (markBoolS_nil 1 _).mono ?_
  rintro e w1 ⟨rfl, hw⟩; rw [hw]; clear hw w1
  go_wp2
  go_ret
  exact ⟨rfl, (Below.refl _ _).alloc (Nat.le_refl _) _⟩
set_option maxRecDepth 100000 in
set_option maxHeartbeats 2000000 in
theorem heldVa_any (k c : Int) (x : Cl) (w : World) :
    Calls Tryd.prog 8 #[vaV k c x, .int .i64 1] w fun e w' => e = .returned (.int .i64 1) ∧ Below w.heap.size w w' := by
  obtain ⟨xk, xa, xn, xp, xo, xd⟩ := x
  unfold vaV
  go_enter Tryd.func8, Tryd.ntmps8
  go_wp2_with fail
  refine (heldBoolS_nil 1 _).mono ?_
  rintro e w1 ⟨rfl, hw⟩; rw [hw]; clear hw w1
  go_wp2
  go_ret
  exact ⟨rfl, (Below.refl _ _).alloc (Nat.le_refl _) _⟩
set_option maxRecDepth 100000 in
set_option maxHeartbeats 4000000 in
theorem eqVa_yes (k c : Int) (x : Cl) (w : World) :
    Calls Tryd.prog 6 #[vaV k c x, vaV k c x] w fun e w' => e = .returned (.bool true) ∧ Below w.heap.size w w' := by
  have V1 := VaB.madeOf (w := w) k c x rfl
  have X1 := V1.below (w' := (w.alloc (.cells #[.int .i64 k, .int .i64 0, .int .i64 c, .int .i64 x.k, .int .i64 x.a, .int .i64 x.n, .string x.p, .string x.o, .string x.d, .string ⟨#[]⟩, .slice none 0 0, .int .i64 0, .bool false, .bool false] 26)).alloc (.cells #[.int .i64 k, .int .i64 0, .int .i64 c, .int .i64 x.k, .int .i64 x.a, .int .i64 x.n, .string x.p, .string x.o, .string x.d, .string ⟨#[]⟩, .slice none 0 0, .int .i64 0, .bool false, .bool false] 26)) ((Below.refl _ _).alloc (Nat.le_refl _) _)
  have XH : Hid (VaB _ _ k c x) := X1
  have YH : Hid (VaB ((w.alloc (.cells #[.int .i64 k, .int .i64 0, .int .i64 c, .int .i64 x.k, .int .i64 x.a, .int .i64 x.n, .string x.p, .string x.o, .string x.d, .string ⟨#[]⟩, .slice none 0 0, .int .i64 0, .bool false, .bool false] 26)).alloc (.cells #[.int .i64 k, .int .i64 0, .int .i64 c, .int .i64 x.k, .int .i64 x.a, .int .i64 x.n, .string x.p, .string x.o, .string x.d, .string ⟨#[]⟩, .slice none 0 0, .int .i64 0, .bool false, .bool false] 26)) (w.heap.size + 1) k c x) := VaB.madeOf k c x (by simp)
  clear V1 X1
  unfold vaV
  go_enter Tryd.func6, Tryd.ntmps6
  go_wp2_with fail
  refine (eqFileCall_cl x _).mono ?_
  rintro e w1 ⟨rfl, b1⟩
  have B1 : Hid (Below w.heap.size w w1) := (((Below.refl _ _).alloc (Nat.le_refl _) _).alloc (by simp) _).trans (b1.mono (by simp; omega))
  have X1 : Hid (VaB w1 w.heap.size k c x) := XH.out.below b1
  have Y1 : Hid (VaB w1 (w.heap.size + 1) k c x) := YH.out.below b1
  clear XH YH b1
  obtain ⟨v0, v1, v2, v3, v4, v5, v6, v7, v8, v9, v10, v11, v12, v13⟩ := X1.out.c
  obtain ⟨u0, u1, u2, u3, u4, u5, u6, u7, u8, u9, u10, u11, u12, u13⟩ := Y1.out.c
  go_wp2_with (go_at_call 28; refine (eqBoolS_nil _).mono ?_; rintro e w' ⟨rfl, hw⟩; rw [hw]; clear hw w')
  go_ret
  exact ⟨rfl, B1.out⟩
theorem lineV_is (s : ByteArray) : ∃ (k c : Int) (x : Cl), lineV s = vaV k c x := by
  unfold lineV
  generalize (if s.size ≤ 65536 then lineA s else none) = o
  cases o with
  | none => exact ⟨0, 0, clZ, rfl⟩
  | some y => exact ⟨y.1, y.2.1, y.2.2, rfl⟩
set_option maxRecDepth 100000 in
set_option maxHeartbeats 8000000 in
theorem law_readLine (s : ByteArray) (W : World) (hE : EnvN W.heap.size W) :
    Calls Tryd.prog 3 #[.string s] W fun e W' => e = .returned (.bool true) ∧ Below W.heap.size W W' := by
  obtain ⟨k, c, x, hv⟩ := lineV_is s
  obtain ⟨code, hcode⟩ : ∃ code, lineC s = code := ⟨_, rfl⟩
  have HS : Hid (∀ w, Calls Tryd.prog 4 #[.string s] w fun e w' => e = .returned (.tuple #[vaV k c x, .int .i64 code]) ∧ Below w.heap.size w w') := fun w => by have := specReadLine_any s w; rwa [hv, hcode] at this
  have HI : Hid (∀ w, Below W.heap.size W w → Calls Tryd.prog 5 #[.string s] w fun e w' => e = .returned (.tuple #[vaV k c x, .int .i64 code]) ∧ Below w.heap.size w w') := fun w hb => by have := implReadLine_any s W.heap.size w hb.size (hE.on hb); rwa [hv, hcode] at this
  clear hv hcode hE
  go_enter Tryd.func3, Tryd.ntmps3
  by_cases hm : s.size ≤ 1048576
  · have hm1 : ¬ (1048576 : Int) < (s.size : Int) := by omega
    go_wp2_with fail
    refine (HS.out _).mono ?_
    rintro e w1 ⟨rfl, b1⟩
    have P1 : Hid (VaB (w1.alloc (.cells #[.int .i64 k, .int .i64 0, .int .i64 c, .int .i64 x.k, .int .i64 x.a, .int .i64 x.n, .string x.p, .string x.o, .string x.d, .string ⟨#[]⟩, .slice none 0 0, .int .i64 0, .bool false, .bool false] 26)) w1.heap.size k c x) := VaB.madeOf k c x rfl
    have B1 : Hid (Below W.heap.size W (w1.alloc (.cells #[.int .i64 k, .int .i64 0, .int .i64 c, .int .i64 x.k, .int .i64 x.a, .int .i64 x.n, .string x.p, .string x.o, .string x.d, .string ⟨#[]⟩, .slice none 0 0, .int .i64 0, .bool false, .bool false] 26))) := b1.alloc b1.size _
    clear b1
    unfold vaV
    go_wp2_with fail
    refine (HI.out _ B1.out).mono ?_
    rintro e w2 ⟨rfl, b2⟩
    have P2 : Hid (VaB (w2.alloc (.cells #[.int .i64 k, .int .i64 0, .int .i64 c, .int .i64 x.k, .int .i64 x.a, .int .i64 x.n, .string x.p, .string x.o, .string x.d, .string ⟨#[]⟩, .slice none 0 0, .int .i64 0, .bool false, .bool false] 26)) w1.heap.size k c x) := (P1.out.below b2).below ((Below.refl _ _).alloc (Nat.le_refl _) _)
    have Q2 : Hid (VaB (w2.alloc (.cells #[.int .i64 k, .int .i64 0, .int .i64 c, .int .i64 x.k, .int .i64 x.a, .int .i64 x.n, .string x.p, .string x.o, .string x.d, .string ⟨#[]⟩, .slice none 0 0, .int .i64 0, .bool false, .bool false] 26)) w2.heap.size k c x) := VaB.madeOf k c x rfl
    have B2 : Hid (Below W.heap.size W (w2.alloc (.cells #[.int .i64 k, .int .i64 0, .int .i64 c, .int .i64 x.k, .int .i64 x.a, .int .i64 x.n, .string x.p, .string x.o, .string x.d, .string ⟨#[]⟩, .slice none 0 0, .int .i64 0, .bool false, .bool false] 26))) := (B1.out.trans (b2.mono B1.out.size)).alloc (Nat.le_trans B1.out.size b2.size) _
    have tok : True := trivial
    clear b2 P1 B1
    unfold vaV
    go_wp2_with (show wpList _ _ _ ({ dst := some 24, op := _, type := _, pos := _, after := _, guard := _ } :: _) _ _; clear tok; generalize w2.alloc (.cells #[.int .i64 k, .int .i64 0, .int .i64 c, .int .i64 x.k, .int .i64 x.a, .int .i64 x.n, .string x.p, .string x.o, .string x.d, .string ⟨#[]⟩, .slice none 0 0, .int .i64 0, .bool false, .bool false] 26) = w3 at *; generalize w2.heap.size = p2 at *; generalize w1.heap.size = p1 at *; obtain ⟨v0, v1, v2, v3, v4, v5, v6, v7, v8, v9, v10, v11, v12, v13⟩ := P2.out.c; obtain ⟨u0, u1, u2, u3, u4, u5, u6, u7, u8, u9, u10, u11, u12, u13⟩ := Q2.out.c)
    rename World => w3
    refine (eqVa_yes k c x w3).mono ?_
    rintro e w4 ⟨rfl, b4⟩
    have P4 : Hid (VaB w4 p1 k c x) := P2.out.below b4
    have Q4 : Hid (VaB w4 p2 k c x) := Q2.out.below b4
    have B4 : Hid (Below W.heap.size W w4) := B2.out.trans (b4.mono B2.out.size)
    clear b4 v0 v1 v2 v3 v4 v5 v6 v7 v8 v9 v10 v11 v12 v13 u0 u1 u2 u3 u4 u5 u6 u7 u8 u9 u10 u11 u12 u13 P2 Q2 B2
    obtain ⟨u0, u1, u2, u3, u4, u5, u6, u7, u8, u9, u10, u11, u12, u13⟩ := Q4.out.c
    go_wp2_with fail
    refine (markVa_any k c x _).mono ?_
    rintro e w5 ⟨rfl, b5⟩
    have P5 : Hid (VaB w5 p1 k c x) := P4.out.below b5
    have Q5 : Hid (VaB w5 p2 k c x) := Q4.out.below b5
    have B5 : Hid (Below W.heap.size W w5) := B4.out.trans (b5.mono B4.out.size)
    clear b5 u0 u1 u2 u3 u4 u5 u6 u7 u8 u9 u10 u11 u12 u13 P4 Q4 B4
    obtain ⟨u0, u1, u2, u3, u4, u5, u6, u7, u8, u9, u10, u11, u12, u13⟩ := Q5.out.c
    go_wp2_with fail
    refine (heldVa_any k c x _).mono ?_
    rintro e w6 ⟨rfl, b6⟩
    have P6 : Hid (VaB w6 p1 k c x) := P5.out.below b6
    have Q6 : Hid (VaB w6 p2 k c x) := Q5.out.below b6
    have B6 : Hid (Below W.heap.size W w6) := B5.out.trans (b6.mono B5.out.size)
    clear b6 u0 u1 u2 u3 u4 u5 u6 u7 u8 u9 u10 u11 u12 u13 P5 Q5 B5
    go_wp2_with fail
    refine (HI.out _ B6.out).mono ?_
    rintro e w7 ⟨rfl, b7⟩
    have P8 : Hid (VaB (w7.alloc (.cells #[.int .i64 k, .int .i64 0, .int .i64 c, .int .i64 x.k, .int .i64 x.a, .int .i64 x.n, .string x.p, .string x.o, .string x.d, .string ⟨#[]⟩, .slice none 0 0, .int .i64 0, .bool false, .bool false] 26)) p1 k c x) := (P6.out.below b7).below ((Below.refl _ _).alloc (Nat.le_refl _) _)
    have Q8 : Hid (VaB (w7.alloc (.cells #[.int .i64 k, .int .i64 0, .int .i64 c, .int .i64 x.k, .int .i64 x.a, .int .i64 x.n, .string x.p, .string x.o, .string x.d, .string ⟨#[]⟩, .slice none 0 0, .int .i64 0, .bool false, .bool false] 26)) p2 k c x) := (Q6.out.below b7).below ((Below.refl _ _).alloc (Nat.le_refl _) _)
    have R8 : Hid (VaB (w7.alloc (.cells #[.int .i64 k, .int .i64 0, .int .i64 c, .int .i64 x.k, .int .i64 x.a, .int .i64 x.n, .string x.p, .string x.o, .string x.d, .string ⟨#[]⟩, .slice none 0 0, .int .i64 0, .bool false, .bool false] 26)) w7.heap.size k c x) := VaB.madeOf k c x rfl
    have B8 : Hid (Below W.heap.size W (w7.alloc (.cells #[.int .i64 k, .int .i64 0, .int .i64 c, .int .i64 x.k, .int .i64 x.a, .int .i64 x.n, .string x.p, .string x.o, .string x.d, .string ⟨#[]⟩, .slice none 0 0, .int .i64 0, .bool false, .bool false] 26))) := (B6.out.trans (b7.mono B6.out.size)).alloc (Nat.le_trans B6.out.size b7.size) _
    have tok : True := trivial
    clear b7 P6 Q6 B6
    unfold vaV
    go_wp2_with (show wpList _ _ _ ({ dst := some 49, op := _, type := _, pos := _, after := _, guard := _ } :: _) _ _; clear tok; generalize w7.alloc (.cells #[.int .i64 k, .int .i64 0, .int .i64 c, .int .i64 x.k, .int .i64 x.a, .int .i64 x.n, .string x.p, .string x.o, .string x.d, .string ⟨#[]⟩, .slice none 0 0, .int .i64 0, .bool false, .bool false] 26) = w8 at *; generalize w7.heap.size = p3 at *; obtain ⟨v0, v1, v2, v3, v4, v5, v6, v7, v8, v9, v10, v11, v12, v13⟩ := P8.out.c; obtain ⟨u0, u1, u2, u3, u4, u5, u6, u7, u8, u9, u10, u11, u12, u13⟩ := R8.out.c)
    rename World => w8
    refine (eqVa_yes k c x w8).mono ?_
    rintro e w9 ⟨rfl, b9⟩
    have Q9 : Hid (VaB w9 p2 k c x) := Q8.out.below b9
    have B9 : Hid (Below W.heap.size W w9) := B8.out.trans (b9.mono B8.out.size)
    clear b9 v0 v1 v2 v3 v4 v5 v6 v7 v8 v9 v10 v11 v12 v13 u0 u1 u2 u3 u4 u5 u6 u7 u8 u9 u10 u11 u12 u13 P8 Q8 R8 B8
    obtain ⟨u0, u1, u2, u3, u4, u5, u6, u7, u8, u9, u10, u11, u12, u13⟩ := Q9.out.c
    go_wp2_with fail
    refine (heldVa_any k c x _).mono ?_
    rintro e w10 ⟨rfl, b10⟩
    have B10 : Hid (Below W.heap.size W w10) := B9.out.trans (b10.mono B9.out.size)
    clear b10
    go_wp2
    go_ret
    exact ⟨rfl, B10.out⟩
  · have hm1 : (1048576 : Int) < (s.size : Int) := by omega
    go_wp2
    go_ret
    exact ⟨rfl, Below.refl _ _⟩
end Go.Proofs.YthebbijbedffpaaDoor
