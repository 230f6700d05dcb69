/-
  Texts of the proof, joined: IntK.
-/
import Derived.Test.YtedncfcmhaaobaaY04
import Derived.Test.YtedncfcmhaaobaaY13
namespace Go.Proofs.Ytedncfcmhaaobaa
open Go.ChangeShapes Go.WideShapes Go.ChangeAt Go.RowKit
set_option linter.unusedVariables false
theorem Num.ints {w : World} {a : Option Addr} {n : Nat} {C : Nat → Int} (h : Num w a n C) : Ints w a n C := fun i hi => by
 obtain ⟨b, off, ha, hc⟩ := h.opened (by omega)
 exact ⟨b, off, ha, hc i hi⟩
def mkC (k : Nat) (i : Nat) : Int := ((k + i : Nat) : Int)
theorem eqNum_yes (a b : Option Addr) (n c d : Nat) (C : Nat → Int) (w : World) (h : Num w a n C) (h' : Num w b n C) (hn : n ≤ 1048576) : Calls Try.prog 20 #[.slice a n c, .slice b n d] w fun e w' => e = .returned (.bool true) ∧ Below w.heap.size w w' :=
 (eqIntS_yes a b n c d C C w h.ints h'.ints (fun _ _ => rfl) hn).mono fun e w' q => ⟨q.1, by obtain ⟨k, rfl⟩ := q.2; exact ⟨rfl, rfl, rfl, Nat.le_refl _, fun _ _ => rfl⟩⟩
set_option maxRecDepth 100000 in
theorem markIntK (a : Option Addr) (g n c k : Nat) (C : Nat → Int) (hn : k + n ≤ 10000000) (w : World) (h : RowE w 1 a g n (inF C)) :
  Calls Try.prog 23 #[.slice a n c, .int .i64 (k : Int)] w fun e w' => e = .returned (.int .i64 ((k + n : Nat) : Int)) ∧ RowE w' 1 a g n (inF (mkC k)) ∧ TurnedE g n w w' := by
 have H : Hid (RowE w 1 a g n (inF C)) := h
 clear h
 go_enter Try.func23, Try.ntmps23
 go_wp2
 go_loopw [1, 5] (fun x i wr => ∃ j : Nat, j ≤ n ∧ i = .int .i64 (j : Int) ∧ x = .int .i64 ((k + j : Nat) : Int) ∧ RowE wr 1 a g n (inF (fun i => if i < j then mkC k i else C i)) ∧ TurnedE g n w wr) (fun _ i _ => n - (intOf i).toNat)
 case atStart => exact ⟨0, by omega, rfl, rfl, H.out.congr (fun i hi j hj => by unfold inF; dsimp only; rw [if_neg (by omega)]), TurnedE.refl _ _ _⟩
 case round =>
  obtain ⟨j, hj, rfl, rfl, hr, ht⟩ := hrel
  by_cases hlt : j < n
  ·obtain rfl := hr.a (by omega)
   have t0 := hr.c j hlt 0 (by omega)
   have t1 := hr.z j (by omega)
   simp only [Nat.mul_one, Nat.add_zero] at t0
   have R2 : Hid (RowE (wr.setCell ⟨g, j, none⟩ (.int .i64 ((k + j : Nat) : Int))) 1 (some ⟨g, 0, none⟩) g n (inF (fun i => if i < j + 1 then mkC k i else C i))) := by
    have q := hr.set j 0 (by omega) (.int .i64 ((k + j : Nat) : Int))
    simp only [Nat.mul_one, Nat.add_zero] at q
    exact q.congr (fun i hi l hl => by
     obtain rfl : l = 0 := by omega
     unfold setF inF
     by_cases e : i = j
     ·subst e; simp [mkC]
     ·rw [if_neg (fun q => e q.1)]
      dsimp only
      by_cases e2 : i < j
      ·rw [if_pos e2, if_pos (by omega)]
      ·rw [if_neg e2, if_neg (by omega)])
   have T2 : Hid (TurnedE g n w (wr.setCell ⟨g, j, none⟩ (.int .i64 ((k + j : Nat) : Int)))) := ⟨ht.1.setCell j _, fun e => absurd e (by omega)⟩
   have hw : IntKind.i64.wrap (((k + j : Nat) : Int) + 1) = ((k + j : Nat) : Int) + 1 := IntWalk.i64_in _ (by omega)
   clear hr ht
   go_wp2
   go_roundw
   case rel => exact ⟨j + 1, by omega, by go_num, by go_num, R2.out, T2.out⟩
   case measure => simp [intOf]; omega
  ·obtain rfl : j = n := by omega
   have R2 : Hid (RowE wr 1 a g j (inF (mkC k))) := hr.congr (fun i hi l hl => by unfold inF; dsimp only; rw [if_pos hi])
   have T2 : Hid (TurnedE g j w wr) := ht
   clear hr ht
   go_wp2
   go_ret
   exact ⟨rfl, R2.out, T2.out⟩
set_option maxRecDepth 100000 in
theorem heldIntK (a : Option Addr) (n c k : Nat) (hn : k + n ≤ 10000000) (w : World) (h : Num w a n (mkC k)) :
  Calls Try.prog 24 #[.slice a n c, .int .i64 (k : Int)] w fun e w' => e = .returned (.int .i64 ((k + n : Nat) : Int)) ∧ Below w.heap.size w w' := by
 have H : Hid (Num w a n (mkC k)) := h
 clear h
 go_enter Try.func24, Try.ntmps24
 go_wp2
 go_loopw [1, 5] (fun x i wr => ∃ j : Nat, j ≤ n ∧ i = .int .i64 (j : Int) ∧ x = .int .i64 ((k + j : Nat) : Int) ∧ wr = w) (fun _ i _ => n - (intOf i).toNat)
 case atStart => exact ⟨0, by omega, rfl, rfl, rfl⟩
 case round =>
  obtain ⟨j, hj, rfl, rfl, rfl⟩ := hrel
  by_cases hlt : j < n
  ·obtain ⟨b, off, rfl, hc⟩ := H.out.opened (by omega)
   have c1 := hc j hlt
   unfold mkC at c1
   clear hc
   go_wp2
   go_roundw
   case rel => exact ⟨j + 1, by omega, by go_num, by go_num, trivial⟩
   case measure => simp [intOf]; omega
  ·obtain rfl : j = n := by omega
   go_wp2
   go_ret
   exact ⟨rfl, Below.refl _ _⟩
end Go.Proofs.Ytedncfcmhaaobaa
