/-
  Plain mathematics of round keys as texts: no function of the program in sight.
-/
import Derived.Test.YtbhlgcenfanicaaKeys
import Derived.Laws.BytesArg
namespace Go.Proofs.Ytbhlgcenfanicaa
open Go.ChangeShapes Go.WideShapes Go.ChangeAt Go.RowKit
namespace Gf
theorem kt_congr {n : Nat} {L L' : Nat → Nat} {i r : Nat} (hr : r < 4) (h : ∀ r, r < 4 → L r = L' r) : kt n L i r = kt n L' i r := by
  unfold kt
  rw [h 1 (by omega), h ((r + 1) % 4) (Nat.mod_lt _ (by omega)), h r hr]
theorem ws_stay {key : Nat → Nat} {n : Nat} (t : Nat) : ∀ d j, j < (n + t) * 4 → ws key n (t + d) j = ws key n t j := by
  intro d
  induction d with
  | zero => intro j _; rfl
  | succ d ih =>
    intro j hj
    rw [← Nat.add_assoc, ws_old _ _ (Or.inl (by omega)), ih j hj]
theorem ws_key {key : Nat → Nat} {n : Nat} (t j : Nat) (hj : j < n * 4) : ws key n t j = key j := by
  have := ws_stay (key := key) (n := n) 0 t j (by omega)
  rw [Nat.zero_add] at this
  rw [this]
  show (if j < n * 4 then key j else 0) = key j
  rw [if_pos hj]
theorem ws_rec {key : Nat → Nat} {n M : Nat} (hn : 1 ≤ n) (I r : Nat) (hI : n ≤ I) (hM : I < n + M) (hr : r < 4) :
    ws key n M (I * 4 + r) = ws key n M ((I - n) * 4 + r) ^^^ kt n (fun r => ws key n M ((I - 1) * 4 + r)) I r := by
  obtain ⟨t, rfl⟩ : ∃ t, I = n + t := ⟨I - n, by omega⟩
  obtain ⟨d, rfl⟩ : ∃ d, M = t + 1 + d := ⟨M - (t + 1), by omega⟩
  rw [ws_stay (t + 1) d _ (by omega), ws_new t r hr]
  have e1 : ws key n (t + 1 + d) ((n + t - n) * 4 + r) = ws key n t (t * 4 + r) := by
    rw [show n + t - n = t from by omega, show t + 1 + d = t + (1 + d) from by omega, ws_stay t (1 + d) _ (by omega)]
  rw [e1]
  congr 1
  refine kt_congr hr (fun r hr => ?_)
  show _ = ws key n (t + 1 + d) ((n + t - 1) * 4 + r)
  rw [show t + 1 + d = t + (1 + d) from by omega, ws_stay t (1 + d) _ (by omega)]
theorem mul_two : ∀ x, x < 256 → mul x 2 = dbl x := by decide +kernel
end Gf
end Go.Proofs.Ytbhlgcenfanicaa
