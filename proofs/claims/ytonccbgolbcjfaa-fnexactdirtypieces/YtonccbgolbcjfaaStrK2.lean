/-
  Marks of a list of texts, from any number on.
-/
import Derived.Test.YtonccbgolbcjfaaStrK
namespace Go.Proofs.Ytonccbgolbcjfaa
open Go.ChangeShapes Go.WideShapes Go.ChangeAt Go.RowKit
set_option linter.unusedVariables false
set_option maxRecDepth 100000 in
set_option maxHeartbeats 1000000 in
theorem markStrKk (a : Option Addr) (b n c k : Nat) (f : Nat → ByteArray) (w : World) (h : TxRow w a b n (fun i => f i)) (hk : 1 ≤ k) (hn : n ≤ 10000000) (hn2 : k + n ≤ 90000000) :
    Calls Try.prog 23 #[.slice a n c, .int .i64 (k : Int)] w fun e w' => e = .returned (.int .i64 ((k + n : Nat) : Int)) ∧ TxRow w' a b n (fun i => mt (i + k)) ∧ TurnedE b n w w' := by
  have H : Hid (TxRow w a b n (fun i => f i)) := h
  clear h
  go_enter Try.func23, Try.ntmps23
  go_wp2
  go_loopw [1, 5] (fun kv i wr => ∃ q : Nat, q ≤ n ∧ i = .int .i64 q ∧ kv = .int .i64 ((q + k : Nat) : Int) ∧ TxRow wr a b n (fun i => if i < q then mt (i + k) else f i) ∧ TurnedE b n w wr) (fun _ i _ => n - (intOf i).toNat)
  case atStart => exact ⟨0, by omega, rfl, numEqS (by omega), H.out.congr (fun j hj => by rw [if_neg (by omega)]), TurnedE.refl _ _ _⟩
  case round =>
    obtain ⟨q, hq, rfl, rfl, hrow, ho⟩ := hrel
    by_cases hlt : q < n
    · have MT : Hid (∀ w : World, Calls Try.prog 41 #[.int .i64 ((q + k : Nat) : Int)] w fun e w' => e = .returned (.string (mt (q + k))) ∧ Below w.heap.size w w') := markText_any (q + k) (by omega) (by omega)
      have hlt' : (q : Int) < (n : Int) := by omega
      obtain rfl := hrow.a (by omega)
      have HRW : Hid (TxRow wr (some ⟨b, 0, none⟩) b n (fun i => if i < q then mt (i + k) else f i)) := hrow
      have HO : Hid (OnlyB b w wr) := ho.1
      clear hrow ho
      go_wp2_with fail
      refine (MT.out _).mono ?_
      rintro e w1 ⟨rfl, hb⟩
      have hrow := HRW.out.ofBlock (fun hp => hb.block b (HRW.out.lt hp))
      have g1 := hrow.c q hlt
      rw [if_neg (by omega)] at g1
      have f1 := hrow.z q hlt
      have HR1 : Hid (TxRow w1 (some ⟨b, 0, none⟩) b n (fun i => if i < q then mt (i + k) else f i)) := hrow
      have HO1 : Hid (OnlyB b w w1) := HO.out.below hb
      clear hrow hb HRW HO
      go_wp2
      go_roundw
      case rel =>
        refine ⟨q + 1, by omega, by go_num, numEqS (by omega), ?_, ⟨HO1.out.setCell _ _, fun z => absurd z (by omega)⟩⟩
        exact (HR1.out.set q _).congr (fun j hj => by
          by_cases e : j = q
          · subst e; rw [if_pos rfl, if_pos (show j < j + 1 by omega)]
          · rw [if_neg e]
            by_cases h1 : j < q
            · rw [if_pos h1, if_pos (by omega)]
            · rw [if_neg h1, if_neg (by omega)])
      case measure => simp [intOf]; omega
    · obtain rfl : q = n := by omega
      have HF : Hid (TxRow wr a b q (fun i => mt (i + k))) := hrow.congr (fun j hj => by rw [if_pos hj])
      have HO : Hid (TurnedE b q w wr) := ho
      clear hrow ho
      go_wp2
      go_ret
      exact ⟨by rw [Nat.add_comm k q]; rfl, HF.out, HO.out⟩
end Go.Proofs.Ytonccbgolbcjfaa
