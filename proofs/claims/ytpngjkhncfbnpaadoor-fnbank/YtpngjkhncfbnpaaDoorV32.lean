/-
  Texts of the proof, joined: BankRq.
-/
import Derived.Test.YtpngjkhncfbnpaaDoorV29
namespace Go.Proofs.YtpngjkhncfbnpaaDoor
open Go.ChangeShapes Go.WideShapes Go.ChangeAt Go.RowKit
set_option linter.unusedVariables false
set_option maxRecDepth 100000 in
theorem asked_any (q : Rq) (w : World) : Calls Tryd.prog 88 #[.agg #[.int .i64 q.se, .int .i64 q.sq, .int .i64 q.x.v, .int .i64 q.x.c, .string q.x.r]] w fun e w' => e = .returned (.agg #[.int .i64 q.x.v, .int .i64 q.x.c, .string q.x.r]) ∧ Below w.heap.size w w' := by
  obtain ⟨se, sq, v, c, r⟩ := q
  dsimp only
  have A1 : Hid (∀ (x y z : Value), Below w.heap.size w (((w.alloc (.cells #[.int .i64 se, .int .i64 sq, .int .i64 v, .int .i64 c, .string r] 52)).alloc (.cells #[x, y, z] 54)))) := fun x y z => ((Below.refl _ _).alloc (Nat.le_refl _) _).alloc (by simp) _
  go_enter Tryd.func88, Tryd.ntmps88
  go_wp2
  exact ret_cell (b := w.heap.size + 1) (v := .agg #[.int .i64 v, .int .i64 c, .string r]) Tryd.results88 rfl (by go_simp) ⟨rfl, A1.out _ _ _⟩
set_option maxRecDepth 100000 in
theorem requestOK_any (q : Rq) (w : World) : Calls Tryd.prog 50 #[.agg #[.int .i64 q.se, .int .i64 q.sq, .int .i64 q.x.v, .int .i64 q.x.c, .string q.x.r]] w fun e w' => e = .returned (.bool (okB q.Ok)) ∧ Below w.heap.size w w' := by
  have TA : Hid (∀ w : World, Calls Tryd.prog 86 #[.int .i64 q.se, .int .i64 q.sq] w fun e w' => e = .returned (.bool (okB (TurnOk q.se q.sq))) ∧ w = w') := turnOK_any q.se q.sq
  have AS : Hid (∀ w : World, Calls Tryd.prog 88 #[.agg #[.int .i64 q.se, .int .i64 q.sq, .int .i64 q.x.v, .int .i64 q.x.c, .string q.x.r]] w fun e w' => e = .returned (.agg #[.int .i64 q.x.v, .int .i64 q.x.c, .string q.x.r]) ∧ Below w.heap.size w w') := asked_any q
  have RO : Hid (∀ w : World, Calls Tryd.prog 87 #[.agg #[.int .i64 q.x.v, .int .i64 q.x.c, .string q.x.r]] w fun e w' => e = .returned (.bool (okB q.x.Ok)) ∧ Below w.heap.size w w') := registerOK_any q.x
  have ZZ : Hid (okB q.Ok = (okB (TurnOk q.se q.sq) && okB q.x.Ok)) := by
    change okB q.Ok = (okB (TurnOk q.se q.sq) && okB q.x.Ok)
    by_cases h1 : TurnOk q.se q.sq
    · by_cases h2 : q.x.Ok
      · rw [okB_yes h1, okB_yes h2, okB_yes (show q.Ok from ⟨h1, h2⟩)]; rfl
      · rw [okB_no h2, okB_no (show ¬ q.Ok from fun e => h2 e.2), Bool.and_false]
    · rw [okB_no h1, okB_no (show ¬ q.Ok from fun e => h1 e.1), Bool.false_and]
  generalize okB q.Ok = z at *
  generalize okB q.x.Ok = z2 at *
  generalize okB (TurnOk q.se q.sq) = z1 at *
  obtain ⟨se, sq, v, c, r⟩ := q
  dsimp only at *
  have A1 : Hid (Below w.heap.size w (w.alloc (.cells #[.int .i64 se, .int .i64 sq, .int .i64 v, .int .i64 c, .string r] 52))) := (Below.refl _ _).alloc (Nat.le_refl _) _
  rcases z1 with _ | _
  · obtain rfl := ZZ.out
    go_enter Tryd.func50, Tryd.ntmps50
    go_wp2_with fail
    refine (TA.out _).mono ?_
    rintro e w' ⟨rfl, rfl⟩
    go_wp2
    go_ret
    exact ⟨rfl, A1.out⟩
  · obtain rfl := ZZ.out
    go_enter Tryd.func50, Tryd.ntmps50
    go_wp2_with fail
    refine (TA.out _).mono ?_
    rintro e w' ⟨rfl, rfl⟩
    go_wp2_with fail
    refine (AS.out _).mono ?_
    rintro e w1 ⟨rfl, h1⟩
    replace A1 := A1.out.trans (h1.mono A1.out.size)
    clear h1
    go_wp2_with fail
    refine (RO.out _).mono ?_
    rintro e w2 ⟨rfl, h2⟩
    have A2 : Hid (Below w.heap.size w w2) := A1.trans (h2.mono A1.size)
    clear h2 A1
    go_wp2
    go_ret
    exact ⟨rfl, A2.out⟩
--@@ (tools/mkrq.py)
set_option maxRecDepth 100000 in
theorem l08Request_any (q : Rq) (w : World) : Calls Tryd.prog 52 #[.agg #[.int .i64 q.se, .int .i64 q.sq, .int .i64 q.x.v, .int .i64 q.x.c, .string q.x.r]] w fun e w' => e = .returned (.bool (okB q.Ok)) ∧ Below w.heap.size w w' := by
  obtain ⟨se, sq, v, c, r⟩ := q
  have F : Hid (¬ Rq.Ok ⟨se, sq, v, c, r⟩ → okB (Rq.Ok ⟨se, sq, v, c, r⟩) = false) := okB_no
  have T : Hid (Rq.Ok ⟨se, sq, v, c, r⟩ → okB (Rq.Ok ⟨se, sq, v, c, r⟩) = true) := okB_yes
  dsimp only
  generalize okB (Rq.Ok ⟨se, sq, v, c, r⟩) = z at *
  have A1 : Hid (Below w.heap.size w (w.alloc (.cells #[.int .i64 se, .int .i64 sq, .int .i64 v, .int .i64 c, .string r] 52))) := (Below.refl _ _).alloc (Nat.le_refl _) _
  by_cases h1 : 0 ≤ se ∧ se ≤ 65535
  · have I1 : Hid (∀ w : World, Calls Tryd.prog 69 #[.int .i64 se, .int .i64 0, .int .i64 65535] w fun e w' => e = .returned (.bool true) ∧ w = w') := fun w => in_any se _ _ _ (by simp [h1]) w
    by_cases h2 : 1 ≤ sq ∧ sq ≤ 65535
    · have I2 : Hid (∀ w : World, Calls Tryd.prog 69 #[.int .i64 sq, .int .i64 1, .int .i64 65535] w fun e w' => e = .returned (.bool true) ∧ w = w') := fun w => in_any sq _ _ _ (by simp [h2]) w
      by_cases h3 : 0 ≤ v ∧ v ≤ 255
      · have I3 : Hid (∀ w : World, Calls Tryd.prog 69 #[.int .i64 v, .int .i64 0, .int .i64 255] w fun e w' => e = .returned (.bool true) ∧ w = w') := fun w => in_any v _ _ _ (by simp [h3]) w
        by_cases h4 : 1 ≤ c ∧ c ≤ 1000000
        · have I4 : Hid (∀ w : World, Calls Tryd.prog 69 #[.int .i64 c, .int .i64 1, .int .i64 1000000] w fun e w' => e = .returned (.bool true) ∧ w = w') := fun w => in_any c _ _ _ (by simp [h4]) w
          by_cases h5 : r.size = 32
          · obtain rfl := T.out ⟨⟨h1, h2⟩, h3, h4, h5⟩
            have e5 : ((r.size : Int) == 32) = true := by simp; omega
            clear F T h1 h2 h3 h4 h5
            go_enter Tryd.func52, Tryd.ntmps52
            go_wp2_with fail
            refine (I1.out _).mono ?_
            rintro e w1 ⟨rfl, rfl⟩
            go_wp2_with fail
            refine (I2.out _).mono ?_
            rintro e w2 ⟨rfl, rfl⟩
            go_wp2_with fail
            refine (I3.out _).mono ?_
            rintro e w3 ⟨rfl, rfl⟩
            go_wp2_with fail
            refine (I4.out _).mono ?_
            rintro e w4 ⟨rfl, rfl⟩
            go_wp2
            go_ret
            exact ⟨rfl, A1.out⟩
          · obtain rfl := F.out (fun e => h5 e.2.2.2)
            have e5 : ((r.size : Int) == 32) = false := by simp; omega
            clear F T h1 h2 h3 h4 h5
            go_enter Tryd.func52, Tryd.ntmps52
            go_wp2_with fail
            refine (I1.out _).mono ?_
            rintro e w1 ⟨rfl, rfl⟩
            go_wp2_with fail
            refine (I2.out _).mono ?_
            rintro e w2 ⟨rfl, rfl⟩
            go_wp2_with fail
            refine (I3.out _).mono ?_
            rintro e w3 ⟨rfl, rfl⟩
            go_wp2_with fail
            refine (I4.out _).mono ?_
            rintro e w4 ⟨rfl, rfl⟩
            go_wp2
            go_ret
            exact ⟨rfl, A1.out⟩
        · have I4 : Hid (∀ w : World, Calls Tryd.prog 69 #[.int .i64 c, .int .i64 1, .int .i64 1000000] w fun e w' => e = .returned (.bool false) ∧ w = w') := fun w => in_any c _ _ _ (by simp; omega) w
          obtain rfl := F.out (fun e => h4 e.2.2.1)
          clear F T h1 h2 h3 h4
          go_enter Tryd.func52, Tryd.ntmps52
          go_wp2_with fail
          refine (I1.out _).mono ?_
          rintro e w1 ⟨rfl, rfl⟩
          go_wp2_with fail
          refine (I2.out _).mono ?_
          rintro e w2 ⟨rfl, rfl⟩
          go_wp2_with fail
          refine (I3.out _).mono ?_
          rintro e w3 ⟨rfl, rfl⟩
          go_wp2_with fail
          refine (I4.out _).mono ?_
          rintro e w4 ⟨rfl, rfl⟩
          go_wp2
          go_ret
          exact ⟨rfl, A1.out⟩
      · have I3 : Hid (∀ w : World, Calls Tryd.prog 69 #[.int .i64 v, .int .i64 0, .int .i64 255] w fun e w' => e = .returned (.bool false) ∧ w = w') := fun w => in_any v _ _ _ (by simp; omega) w
        obtain rfl := F.out (fun e => h3 e.2.1)
        clear F T h1 h2 h3
        go_enter Tryd.func52, Tryd.ntmps52
        go_wp2_with fail
        refine (I1.out _).mono ?_
        rintro e w1 ⟨rfl, rfl⟩
        go_wp2_with fail
        refine (I2.out _).mono ?_
        rintro e w2 ⟨rfl, rfl⟩
        go_wp2_with fail
        refine (I3.out _).mono ?_
        rintro e w3 ⟨rfl, rfl⟩
        go_wp2
        go_ret
        exact ⟨rfl, A1.out⟩
    · have I2 : Hid (∀ w : World, Calls Tryd.prog 69 #[.int .i64 sq, .int .i64 1, .int .i64 65535] w fun e w' => e = .returned (.bool false) ∧ w = w') := fun w => in_any sq _ _ _ (by simp; omega) w
      obtain rfl := F.out (fun e => h2 e.1.2)
      clear F T h1 h2
      go_enter Tryd.func52, Tryd.ntmps52
      go_wp2_with fail
      refine (I1.out _).mono ?_
      rintro e w1 ⟨rfl, rfl⟩
      go_wp2_with fail
      refine (I2.out _).mono ?_
      rintro e w2 ⟨rfl, rfl⟩
      go_wp2
      go_ret
      exact ⟨rfl, A1.out⟩
  · have I1 : Hid (∀ w : World, Calls Tryd.prog 69 #[.int .i64 se, .int .i64 0, .int .i64 65535] w fun e w' => e = .returned (.bool false) ∧ w = w') := fun w => in_any se _ _ _ (by simp; omega) w
    obtain rfl := F.out (fun e => h1 e.1.1)
    clear F T h1
    go_enter Tryd.func52, Tryd.ntmps52
    go_wp2_with fail
    refine (I1.out _).mono ?_
    rintro e w1 ⟨rfl, rfl⟩
    go_wp2
    go_ret
    exact ⟨rfl, A1.out⟩
def FaultIs (n : Nat) (was x : Rg) (cd : Int) : Prop :=
  (was.c = 1000000 ∧ cd = 19) ∨ (was.c < 1000000 ∧ x.c ≤ was.c ∧ cd = 11) ∨ (was.c < 1000000 ∧ was.c + 1 < x.c ∧ cd = 15) ∨
  (was = rgZ ∧ x.c = 1 ∧ n = 6 ∧ cd = 7) ∨ (was = rgZ ∧ x.c = 1 ∧ n < 6 ∧ cd = 0) ∨ (1 ≤ was.c ∧ was.c < 1000000 ∧ x.c = was.c + 1 ∧ cd = 0)
set_option maxRecDepth 100000 in
theorem raiseFault_any (p n c0 : Nat) (a0 : Option Addr) (was x : Rg) (cd : Int) (h : FaultIs n was x cd) (hw : 0 ≤ was.c ∧ was.c ≤ 1000000) (w : World) (hp : w.cell? ⟨p, 0, none⟩ = some (.slice a0 n c0)) :
    Calls Tryd.prog 110 #[.pointer (some ⟨p, 0, none⟩), .agg #[.int .i64 was.v, .int .i64 was.c, .string was.r], .agg #[.int .i64 x.v, .int .i64 x.c, .string x.r]] w fun e w' => e = .returned (.int .i64 cd) ∧ Below w.heap.size w w' := by
  have hlt : p < w.heap.size := strBlock hp
  have A1 : Hid (Below w.heap.size w (((w.alloc (.cells #[.int .i64 was.v, .int .i64 was.c, .string was.r] 54)).alloc (.cells #[.int .i64 x.v, .int .i64 x.c, .string x.r] 54)))) := ((Below.refl _ _).alloc (Nat.le_refl _) _).alloc (by simp) _
  have e0 : IntKind.i64.wrap (was.c + 1) = was.c + 1 := IntWalk.i64_in _ (by omega)
  obtain ⟨v, c, r⟩ := was
  obtain ⟨xv, xc, xr⟩ := x
  dsimp only at *
  rcases h with ⟨h1, rfl⟩ | ⟨h1, h2, rfl⟩ | ⟨h1, h2, rfl⟩ | ⟨h1, h2, h3, rfl⟩ | ⟨h1, h2, h3, rfl⟩ | ⟨h1, h2, h3, rfl⟩
  · dsimp only at h1
    have k1 : 1000000 ≤ c := by omega
    clear h1
    go_enter Tryd.func110, Tryd.ntmps110
    go_wp2
    go_ret
    exact ⟨rfl, A1.out⟩
  · dsimp only at h1 h2
    have k1 : ¬ 1000000 ≤ c := by omega
    go_enter Tryd.func110, Tryd.ntmps110
    go_wp2
    go_ret
    exact ⟨rfl, A1.out⟩
  · dsimp only at h1 h2
    have k1 : ¬ 1000000 ≤ c := by omega
    have k2 : ¬ xc ≤ c := by omega
    go_enter Tryd.func110, Tryd.ntmps110
    go_wp2
    go_ret
    exact ⟨rfl, A1.out⟩
  · cases h1
    dsimp only at h2
    subst h2
    subst h3
    go_enter Tryd.func110, Tryd.ntmps110
    go_wp2
    go_ret
    exact ⟨rfl, A1.out⟩
  · cases h1
    dsimp only at h2
    subst h2
    have k3 : ¬ 6 ≤ n := by omega
    have k4 : ¬ (6 : Int) ≤ (n : Int) := by omega
    go_enter Tryd.func110, Tryd.ntmps110
    go_wp2
    go_ret
    exact ⟨rfl, A1.out⟩
  · dsimp only at h1 h2 h3
    have k1 : ¬ 1000000 ≤ c := by omega
    have k2 : ¬ xc ≤ c := by omega
    have k3 : ¬ c + 1 < xc := by omega
    have k4 : (c == 0) = false := by simp; omega
    have k5 : ¬ c = 0 := by omega
    clear h3
    go_enter Tryd.func110, Tryd.ntmps110
    go_wp2
    go_ret
    exact ⟨rfl, A1.out⟩
end Go.Proofs.YtpngjkhncfbnpaaDoor
