/-
  Texts of the proof, joined: BankOk.
-/
import Derived.Test.YtpngjkhncfbnpaaDoorU12
import Derived.Test.YtpngjkhncfbnpaaDoorU13
import Derived.Test.YtpngjkhncfbnpaaDoorU16
import Derived.Test.YtpngjkhncfbnpaaDoorU17
import Derived.Test.YtpngjkhncfbnpaaDoorU02
namespace Go.Proofs.YtpngjkhncfbnpaaDoor
open Go.ChangeShapes Go.WideShapes Go.ChangeAt Go.RowKit
set_option linter.unusedVariables false
def Rg.Ok (x : Rg) : Prop := (0 ≤ x.v ∧ x.v ≤ 255) ∧ (1 ≤ x.c ∧ x.c ≤ 1000000) ∧ x.r.size = 32
def Se.Ok (x : Se) : Prop := ((0 ≤ x.id ∧ x.id ≤ 65535) ∧ (1 ≤ x.sq ∧ x.sq ≤ 65535)) ∧ (0 ≤ x.cd ∧ x.cd ≤ 19) ∧ (0 ≤ x.ma ∧ x.ma ≤ 1000000)
def RgsOk (n : Nat) (R : Nat → Rg) : Prop := n ≤ 6 ∧ ∀ i, i < n → (R i).Ok ∧ (0 < i → (R (i - 1)).v < (R i).v)
def SesOk (n : Nat) (S : Nat → Se) : Prop := n ≤ 6 ∧ ∀ i, i < n → (S i).Ok ∧ (0 < i → (S (i - 1)).id < (S i).id)
structure Bk where
  nr : Nat
  R : Nat → Rg
  ns : Nat
  S : Nat → Se
def Bk.Ok (b : Bk) : Prop := RgsOk b.nr b.R ∧ SesOk b.ns b.S
def BankV (w : World) (b : Bk) (a0 a1 : Option Addr) : Prop := Els w 3 a0 b.nr (rgF b.R) ∧ Els w 4 a1 b.ns (seF b.S)
theorem BankV.below {w w' : World} {b : Bk} {a0 a1 : Option Addr} (h : BankV w b a0 a1) (hb : Below w.heap.size w w') : BankV w' b a0 a1 := ⟨h.1.below hb, h.2.below hb⟩
open Classical in
noncomputable def okB (P : Prop) : Bool := decide P
theorem okB_yes {P : Prop} (h : P) : okB P = true := by unfold okB; simp [h]
theorem okB_no {P : Prop} (h : ¬ P) : okB P = false := by unfold okB; simp [h]
def cmpI (x y : Int) : Int := if x < y then -1 else if y < x then 1 else 0
theorem cmpI_lt {x y : Int} (h : x < y) : cmpI x y = -1 := if_pos h
theorem cmpI_gt {x y : Int} (h : y < x) : cmpI x y = 1 := by unfold cmpI; rw [if_neg (by omega), if_pos h]
theorem cmpI_eq {x y : Int} (h : x = y) : cmpI x y = 0 := by unfold cmpI; rw [if_neg (by omega), if_neg (by omega)]
set_option maxRecDepth 100000 in
theorem cmp_any (x y : Int) (w : World) : Calls Tryd.prog 96 #[.int .i64 x, .int .i64 y] w fun e w' => e = .returned (.int .i64 (cmpI x y)) ∧ w = w' := by
  have e1 : (x != x) = false := by simp
  have e2 : (y != y) = false := by simp
  rcases Int.lt_trichotomy x y with h | h | h
  · rw [cmpI_lt h]
    go_enter Tryd.func96, Tryd.ntmps96
    go_wp2
    go_ret
    exact ⟨rfl, rfl⟩
  · rw [cmpI_eq h]
    subst h
    go_enter Tryd.func96, Tryd.ntmps96
    go_wp2
    go_ret
    exact ⟨rfl, rfl⟩
  · rw [cmpI_gt h]
    have h' : ¬ x < y := by omega
    go_enter Tryd.func96, Tryd.ntmps96
    go_wp2
    go_ret
    exact ⟨rfl, rfl⟩
set_option maxRecDepth 100000 in
theorem byVolume_any (v c : Int) (r : ByteArray) (x : Int) (w : World) : Calls Tryd.prog 58 #[.agg #[.int .i64 v, .int .i64 c, .string r], .int .i64 x] w fun e w' => e = .returned (.int .i64 (cmpI v x)) ∧ Below w.heap.size w w' := by
  have CM : Hid (∀ w : World, Calls Tryd.prog 96 #[.int .i64 v, .int .i64 x] w fun e w' => e = .returned (.int .i64 (cmpI v x)) ∧ w = w') := cmp_any v x
  generalize cmpI v x = z at *
  go_enter Tryd.func58, Tryd.ntmps58
  go_wp2_with fail
  refine (CM.out _).mono ?_
  rintro e w' ⟨rfl, rfl⟩
  go_wp2
  go_ret
  exact ⟨rfl, (Below.refl _ _).alloc (Nat.le_refl _) _⟩
set_option maxRecDepth 100000 in
theorem byId_any (i q c m : Int) (x : Int) (w : World) : Calls Tryd.prog 90 #[.agg #[.int .i64 i, .int .i64 q, .int .i64 c, .int .i64 m], .int .i64 x] w fun e w' => e = .returned (.int .i64 (cmpI i x)) ∧ Below w.heap.size w w' := by
  have CM : Hid (∀ w : World, Calls Tryd.prog 96 #[.int .i64 i, .int .i64 x] w fun e w' => e = .returned (.int .i64 (cmpI i x)) ∧ w = w') := cmp_any i x
  generalize cmpI i x = z at *
  go_enter Tryd.func90, Tryd.ntmps90
  go_wp2_with fail
  refine (CM.out _).mono ?_
  rintro e w' ⟨rfl, rfl⟩
  go_wp2
  go_ret
  exact ⟨rfl, (Below.refl _ _).alloc (Nat.le_refl _) _⟩
set_option maxRecDepth 100000 in
set_option maxHeartbeats 1000000 in
theorem registerOK_any (x : Rg) (w : World) : Calls Tryd.prog 87 #[.agg #[.int .i64 x.v, .int .i64 x.c, .string x.r]] w fun e w' => e = .returned (.bool (okB x.Ok)) ∧ Below w.heap.size w w' := by
  obtain ⟨v, c, r⟩ := x
  have F : Hid (¬ Rg.Ok ⟨v, c, r⟩ → okB (Rg.Ok ⟨v, c, r⟩) = false) := okB_no
  have T : Hid (Rg.Ok ⟨v, c, r⟩ → okB (Rg.Ok ⟨v, c, r⟩) = true) := okB_yes
  have A1 : Hid (Below w.heap.size w (w.alloc (.cells #[.int .i64 v, .int .i64 c, .string r] 54))) := (Below.refl _ _).alloc (Nat.le_refl _) _
  dsimp only
  generalize okB (Rg.Ok ⟨v, c, r⟩) = z at *
  by_cases h1 : 0 ≤ v
  · by_cases h2 : v ≤ 255
    · by_cases h3 : 1 ≤ c
      · by_cases h4 : c ≤ 1000000
        · by_cases h5 : r.size = 32
          · obtain rfl := T.out ⟨⟨h1, h2⟩, ⟨h3, h4⟩, h5⟩
            have e5 : ((r.size : Int) == 32) = true := by simp; omega
            clear F T h5
            go_enter Tryd.func87, Tryd.ntmps87
            go_wp2
            go_ret
            exact ⟨rfl, A1.out⟩
          · obtain rfl := F.out (fun q => h5 q.2.2)
            have e5 : ((r.size : Int) == 32) = false := by simp; omega
            clear F T h5
            go_enter Tryd.func87, Tryd.ntmps87
            go_wp2
            go_ret
            exact ⟨rfl, A1.out⟩
        · obtain rfl := F.out (fun q => h4 q.2.1.2)
          clear F T
          go_enter Tryd.func87, Tryd.ntmps87
          go_wp2
          go_ret
          exact ⟨rfl, A1.out⟩
      · obtain rfl := F.out (fun q => h3 q.2.1.1)
        clear F T
        go_enter Tryd.func87, Tryd.ntmps87
        go_wp2
        go_ret
        exact ⟨rfl, A1.out⟩
    · obtain rfl := F.out (fun q => h2 q.1.2)
      clear F T
      go_enter Tryd.func87, Tryd.ntmps87
      go_wp2
      go_ret
      exact ⟨rfl, A1.out⟩
  · obtain rfl := F.out (fun q => h1 q.1.1)
    clear F T
    go_enter Tryd.func87, Tryd.ntmps87
    go_wp2
    go_ret
    exact ⟨rfl, A1.out⟩
def TurnOk (i q : Int) : Prop := (0 ≤ i ∧ i ≤ 65535) ∧ (1 ≤ q ∧ q ≤ 65535)
set_option maxRecDepth 100000 in
theorem turnOK_any (i q : Int) (w : World) : Calls Tryd.prog 86 #[.int .i64 i, .int .i64 q] w fun e w' => e = .returned (.bool (okB (TurnOk i q))) ∧ w = w' := by
  have F : Hid (¬ TurnOk i q → okB (TurnOk i q) = false) := okB_no
  have T : Hid (TurnOk i q → okB (TurnOk i q) = true) := okB_yes
  generalize okB (TurnOk i q) = z at *
  by_cases h1 : 0 ≤ i
  · by_cases h2 : i ≤ 65535
    · by_cases h3 : 1 ≤ q
      · by_cases h4 : q ≤ 65535
        · obtain rfl := T.out ⟨⟨h1, h2⟩, ⟨h3, h4⟩⟩
          clear F T
          go_enter Tryd.func86, Tryd.ntmps86
          go_wp2
          go_ret
          exact ⟨rfl, rfl⟩
        · obtain rfl := F.out (fun q => h4 q.2.2)
          clear F T
          go_enter Tryd.func86, Tryd.ntmps86
          go_wp2
          go_ret
          exact ⟨rfl, rfl⟩
      · obtain rfl := F.out (fun q => h3 q.2.1)
        clear F T
        go_enter Tryd.func86, Tryd.ntmps86
        go_wp2
        go_ret
        exact ⟨rfl, rfl⟩
    · obtain rfl := F.out (fun q => h2 q.1.2)
      clear F T
      go_enter Tryd.func86, Tryd.ntmps86
      go_wp2
      go_ret
      exact ⟨rfl, rfl⟩
  · obtain rfl := F.out (fun q => h1 q.1.1)
    clear F T
    go_enter Tryd.func86, Tryd.ntmps86
    go_wp2
    go_ret
    exact ⟨rfl, rfl⟩
end Go.Proofs.YtpngjkhncfbnpaaDoor
