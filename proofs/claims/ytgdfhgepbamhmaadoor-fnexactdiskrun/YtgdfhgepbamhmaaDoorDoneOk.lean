/-
  An act keeps a disk right.
-/
import Derived.Test.YtgdfhgepbamhmaaDoorDriveDo
namespace Go.Proofs.YtgdfhgepbamhmaaDoor
open Go.ChangeShapes Go.WideShapes Go.ChangeAt Go.RowKit
theorem rdF_size (A : Nat → Int) (D : Nat → ByteArray) (b : ByteArray) (x : Int) (hb : b.size ≤ 200) : ∀ k, (∀ i, i < k → (D i).size ≤ 200) → (rdF A D b x k).size ≤ 200
  | 0, _ => hb
  | k + 1, h => by
    unfold rdF
    split
    · exact h k (by omega)
    · exact rdF_size A D b x hb k (fun i hi => h i (by omega))
theorem Dk.done_ok {d : Dk} (hd : d.Ok) (a : Ac) : (d.done a).Ok := by
  have h1 := hd.nb1
  have h2 := hd.nb2
  have h3 := hd.ns
  have h4 := hd.nc
  unfold Dk.done
  by_cases hf : d.fault a = 0
  · rw [if_pos hf]
    unfold Dk.acted
    by_cases k1 : a.kd = 1
    · rw [if_pos k1]
      unfold Dk.fault at hf
      rw [if_pos k1] at hf
      by_cases hx : 0 ≤ a.x ∧ a.x < d.nb
      · rw [if_pos hx] at hf
        by_cases hs : 200 < a.s.size
        · rw [if_pos hs] at hf; cases hf
        · rw [if_neg hs] at hf
          by_cases hc : 4096 ≤ d.nc
          · rw [if_pos hc] at hf; cases hf
          · refine ⟨h1, h2, by show d.nc + 1 ≤ _; omega, h3, hd.B, fun i hi => ?_, hd.S⟩
            show (0 ≤ catI d.nc d.A (fun _ => a.x) i ∧ catI d.nc d.A (fun _ => a.x) i < d.nb) ∧ (catT d.nc d.D (fun _ => a.s) i).size ≤ 200
            unfold catI catT
            by_cases e : i < d.nc
            · rw [if_pos e, if_pos e]; exact hd.C i e
            · rw [if_neg e, if_neg e]; exact ⟨hx, Nat.le_of_not_lt hs⟩
      · rw [if_neg hx] at hf; cases hf
    · rw [if_neg k1]
      by_cases k2 : a.kd = 2
      · rw [if_pos k2]
        exact ⟨h1, h2, by show 0 ≤ _; omega, h3, fun i hi => rdF_size _ _ _ _ (hd.B i hi) _ (fun j hj => (hd.C j hj).2), fun i hi => absurd hi (Nat.not_lt_zero i), hd.S⟩
      · rw [if_neg k2]
        by_cases k3 : a.kd = 3
        · rw [if_pos k3]
          exact ⟨h1, h2, by show 0 ≤ _; omega, h3, fun i hi => crF_size d a.nk a.K a.t hd.B (fun j hj => (hd.C j hj).2) (fun j hj => (hd.C j hj).1) d.nc (Nat.le_refl _) i hi, fun i hi => absurd hi (Nat.not_lt_zero i), hd.S⟩
        · rw [if_neg k3]
          by_cases k4 : a.kd = 4
          · rw [if_pos k4]
            exact ⟨h1, h2, h4, .inr rfl, hd.B, hd.C, hd.B⟩
          · rw [if_neg k4]
            unfold Dk.fault at hf
            rw [if_neg k1, if_neg (by simp [k2, k3, k4])] at hf
            by_cases k5 : a.kd = 5
            · rw [if_pos k5]
              rw [if_pos k5] at hf
              by_cases hs : d.ns = 0
              · rw [if_pos hs] at hf; cases hf
              · exact ⟨by show 1 ≤ d.ns; omega, by show d.ns ≤ 64; omega, by show 0 ≤ _; omega, .inr rfl, hd.S, fun i hi => absurd hi (Nat.not_lt_zero i), hd.S⟩
            · rw [if_neg k5]
              rw [if_neg k5] at hf
              by_cases k6 : a.kd = 6
              · rw [if_pos k6] at hf
                by_cases hx : 0 ≤ a.x ∧ a.x < d.nb
                · rw [if_pos hx] at hf
                  by_cases hs : 200 < a.s.size
                  · rw [if_pos hs] at hf; cases hf
                  · refine ⟨h1, h2, h4, h3, fun i hi => ?_, hd.C, hd.S⟩
                    show (if i = a.x.toNat then a.s else d.B i).size ≤ 200
                    split
                    · omega
                    · exact hd.B i hi
                · rw [if_neg hx] at hf; cases hf
              · rw [if_neg k6] at hf; cases hf
  · rw [if_neg hf]; exact hd
end Go.Proofs.YtgdfhgepbamhmaaDoor
