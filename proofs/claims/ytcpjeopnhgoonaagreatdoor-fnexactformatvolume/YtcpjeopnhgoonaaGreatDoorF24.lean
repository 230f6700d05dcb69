/-
  Texts of the proof, joined.
-/
import Derived.Test.YtcpjeopnhgoonaaGreatDoorF23
import Derived.Test.YtcpjeopnhgoonaaGreatDoorF16
namespace Go.Proofs.YtcpjeopnhgoonaaGreatDoor
open Go.ChangeShapes Go.WideShapes Go.ChangeAt Go.RowKit
set_option linter.unusedVariables false
theorem row_lit {w:World} {A:Array Value} {t:TypeId} {n:Nat} {f:Nat→Nat} (h:A = wA n f):RowW (w.alloc (.cells A t)) w.heap.size t n f:=by subst h; exact RowW.boxed w t n f
set_option maxRecDepth 100000 in
theorem l03Consts_any (w:World):Calls Tryz.prog 123 #[] w fun e w' => e = .returned (.slice (some ⟨w.heap.size,0,none⟩) 64 64)∧RowW w' w.heap.size 177 64 Sha.kc∧Below w.heap.size w w':=by
 go_enter Tryz.func123,Tryz.ntmps123
 go_wp2
 go_ret
 exact ⟨rfl,row_lit (by kernel_rfl),(Below.refl _ _).alloc (Nat.le_refl _) _⟩
theorem outB_at (V:Nat→Nat) (k r:Nat) (hr:r < 4):Sha.outB V (4 * k + r) = V k / 2 ^ (24 - 8 * r) % 256:=by
 unfold Sha.outB
 rw [show (4 * k + r) / 4 = k from by omega,show (4 * k + r) % 4 = r from by omega]
theorem out4 (V:Nat→Nat) (k:Nat):bv (4 * k) (Sha.outB V) ++ [Value.int .u8 ((V k / 16777216 % 256:Nat):Int),.int .u8 ((V k / 65536 % 256:Nat):Int),.int .u8 ((V k / 256 % 256:Nat):Int),.int .u8 ((V k % 256:Nat):Int)] = bv (4 * (k + 1)) (Sha.outB V):=by
 have e:([.int .u8 ((V k / 16777216 % 256:Nat):Int),.int .u8 ((V k / 65536 % 256:Nat):Int),.int .u8 ((V k / 256 % 256:Nat):Int),.int .u8 ((V k % 256:Nat):Int)]:List Value) = bv 4 (fun r => Sha.outB V (4 * k + r)):=by
  show _ = [Value.int .u8 ((Sha.outB V (4 * k + 0):Nat):Int),.int .u8 ((Sha.outB V (4 * k + 1):Nat):Int),.int .u8 ((Sha.outB V (4 * k + 2):Nat):Int),.int .u8 ((Sha.outB V (4 * k + 3):Nat):Int)]
  rw [outB_at V k 0 (by omega),outB_at V k 1 (by omega),outB_at V k 2 (by omega),outB_at V k 3 (by omega)]
  simp
 rw [e,bv_append,show 4 * (k + 1) = 4 * k + 4 from by omega]
 refine bv_congr (fun i hi => ?_)
 by_cases h:i < 4 * k
 ·rw [if_pos h]
 ·rw [if_neg h,show 4 * k + (i - 4 * k) = i from by omega]
end Go.Proofs.YtcpjeopnhgoonaaGreatDoor
