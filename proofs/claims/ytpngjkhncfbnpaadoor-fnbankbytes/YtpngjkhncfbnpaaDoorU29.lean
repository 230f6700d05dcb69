/-
  Texts of the proof, joined: BankRq.
-/
import Derived.Test.YtpngjkhncfbnpaaDoorU26
namespace Go.Proofs.YtpngjkhncfbnpaaDoor
open Go.ChangeShapes Go.WideShapes Go.ChangeAt Go.RowKit
set_option linter.unusedVariables false
set_option maxRecDepth 100000 in
theorem l08Request_any (q : Rq) (w : World) : Calls Tryd.prog 52 #[.agg #[.int .i64 q.se, .int .i64 q.sq, .int .i64 q.x.v, .int .i64 q.x.c, .string q.x.r]] w fun e w' => e = .returned (.bool (okB q.Ok)) ∧ Below w.heap.size w w' := by
  obtain ⟨se, sq, v, c, r⟩ := q
  have F : Hid (¬ Rq.Ok ⟨se, sq, v, c, r⟩ → okB (Rq.Ok ⟨se, sq, v, c, r⟩) = false) := okB_no
  have T : Hid (Rq.Ok ⟨se, sq, v, c, r⟩ → okB (Rq.Ok ⟨se, sq, v, c, r⟩) = true) := okB_yes
  dsimp only
  generalize okB (Rq.Ok ⟨se, sq, v, c, r⟩) = z at *
  have A1 : Hid (Below w.heap.size w (w.alloc (.cells #[.int .i64 se, .int .i64 sq, .int .i64 v, .int .i64 c, .string r] 52))) := (Below.refl _ _).alloc (Nat.le_refl _) _
  by_cases h1 : 0 ≤ se ∧ se ≤ 65535
  · have I1 : Hid (∀ w : World, Calls Tryd.prog 69 #[.int .i64 se, .int .i64 0, .int .i64 65535] w fun e w' => e = .returned (.bool true) ∧ w = w') := fun w => in_any se _ _ _ (by simp [h1]) w
    by_cases h2 : 1 ≤ sq ∧ sq ≤ 65535
    · have I2 : Hid (∀ w : World, Calls Tryd.prog 69 #[.int .i64 sq, .int .i64 1, .int .i64 65535] w fun e w' => e = .returned (.bool true) ∧ w = w') := fun w => in_any sq _ _ _ (by simp [h2]) w
      by_cases h3 : 0 ≤ v ∧ v ≤ 255
      · have I3 : Hid (∀ w : World, Calls Tryd.prog 69 #[.int .i64 v, .int .i64 0, .int .i64 255] w fun e w' => e = .returned (.bool true) ∧ w = w') := fun w => in_any v _ _ _ (by simp [h3]) w
        by_cases h4 : 1 ≤ c ∧ c ≤ 1000000
        · have I4 : Hid (∀ w : World, Calls Tryd.prog 69 #[.int .i64 c, .int .i64 1, .int .i64 1000000] w fun e w' => e = .returned (.bool true) ∧ w = w') := fun w => in_any c _ _ _ (by simp [h4]) w
          by_cases h5 : r.size = 32
          · obtain rfl := T.out ⟨⟨h1, h2⟩, h3, h4, h5⟩
            have e5 : ((r.size : Int) == 32) = true := by simp; omega
            clear F T h1 h2 h3 h4 h5
            go_enter Tryd.func52, Tryd.ntmps52
            go_wp2_with fail
            refine (I1.out _).mono ?_
            rintro e w1 ⟨rfl, rfl⟩
            go_wp2_with fail
            refine (I2.out _).mono ?_
            rintro e w2 ⟨rfl, rfl⟩
            go_wp2_with fail
            refine (I3.out _).mono ?_
            rintro e w3 ⟨rfl, rfl⟩
            go_wp2_with fail
            refine (I4.out _).mono ?_
            rintro e w4 ⟨rfl, rfl⟩
            go_wp2
            go_ret
            exact ⟨rfl, A1.out⟩
          · obtain rfl := F.out (fun e => h5 e.2.2.2)
            have e5 : ((r.size : Int) == 32) = false := by simp; omega
            clear F T h1 h2 h3 h4 h5
            go_enter Tryd.func52, Tryd.ntmps52
            go_wp2_with fail
            refine (I1.out _).mono ?_
            rintro e w1 ⟨rfl, rfl⟩
            go_wp2_with fail
            refine (I2.out _).mono ?_
            rintro e w2 ⟨rfl, rfl⟩
            go_wp2_with fail
            refine (I3.out _).mono ?_
            rintro e w3 ⟨rfl, rfl⟩
            go_wp2_with fail
            refine (I4.out _).mono ?_
            rintro e w4 ⟨rfl, rfl⟩
            go_wp2
            go_ret
            exact ⟨rfl, A1.out⟩
        · have I4 : Hid (∀ w : World, Calls Tryd.prog 69 #[.int .i64 c, .int .i64 1, .int .i64 1000000] w fun e w' => e = .returned (.bool false) ∧ w = w') := fun w => in_any c _ _ _ (by simp; omega) w
          obtain rfl := F.out (fun e => h4 e.2.2.1)
          clear F T h1 h2 h3 h4
          go_enter Tryd.func52, Tryd.ntmps52
          go_wp2_with fail
          refine (I1.out _).mono ?_
          rintro e w1 ⟨rfl, rfl⟩
          go_wp2_with fail
          refine (I2.out _).mono ?_
          rintro e w2 ⟨rfl, rfl⟩
          go_wp2_with fail
          refine (I3.out _).mono ?_
          rintro e w3 ⟨rfl, rfl⟩
          go_wp2_with fail
          refine (I4.out _).mono ?_
          rintro e w4 ⟨rfl, rfl⟩
          go_wp2
          go_ret
          exact ⟨rfl, A1.out⟩
      · have I3 : Hid (∀ w : World, Calls Tryd.prog 69 #[.int .i64 v, .int .i64 0, .int .i64 255] w fun e w' => e = .returned (.bool false) ∧ w = w') := fun w => in_any v _ _ _ (by simp; omega) w
        obtain rfl := F.out (fun e => h3 e.2.1)
        clear F T h1 h2 h3
        go_enter Tryd.func52, Tryd.ntmps52
        go_wp2_with fail
        refine (I1.out _).mono ?_
        rintro e w1 ⟨rfl, rfl⟩
        go_wp2_with fail
        refine (I2.out _).mono ?_
        rintro e w2 ⟨rfl, rfl⟩
        go_wp2_with fail
        refine (I3.out _).mono ?_
        rintro e w3 ⟨rfl, rfl⟩
        go_wp2
        go_ret
        exact ⟨rfl, A1.out⟩
    · have I2 : Hid (∀ w : World, Calls Tryd.prog 69 #[.int .i64 sq, .int .i64 1, .int .i64 65535] w fun e w' => e = .returned (.bool false) ∧ w = w') := fun w => in_any sq _ _ _ (by simp; omega) w
      obtain rfl := F.out (fun e => h2 e.1.2)
      clear F T h1 h2
      go_enter Tryd.func52, Tryd.ntmps52
      go_wp2_with fail
      refine (I1.out _).mono ?_
      rintro e w1 ⟨rfl, rfl⟩
      go_wp2_with fail
      refine (I2.out _).mono ?_
      rintro e w2 ⟨rfl, rfl⟩
      go_wp2
      go_ret
      exact ⟨rfl, A1.out⟩
  · have I1 : Hid (∀ w : World, Calls Tryd.prog 69 #[.int .i64 se, .int .i64 0, .int .i64 65535] w fun e w' => e = .returned (.bool false) ∧ w = w') := fun w => in_any se _ _ _ (by simp; omega) w
    obtain rfl := F.out (fun e => h1 e.1.1)
    clear F T h1
    go_enter Tryd.func52, Tryd.ntmps52
    go_wp2_with fail
    refine (I1.out _).mono ?_
    rintro e w1 ⟨rfl, rfl⟩
    go_wp2
    go_ret
    exact ⟨rfl, A1.out⟩
end Go.Proofs.YtpngjkhncfbnpaaDoor
