/-
  Texts of the proof, joined.
-/
import Derived.Test.YtcpjeopnhgoonaaGreatDoorF01
import Derived.Test.YtcpjeopnhgoonaaGreatDoorF04
import Derived.BigRegion
namespace Go.Proofs.YtcpjeopnhgoonaaGreatDoor
open Go.ChangeShapes Go.WideShapes Go.ChangeAt Go.RowKit
set_option linter.unusedVariables false
theorem u32_or_nat (a b:Nat):bits .or .u32 (a:Int) (b:Int) = ((Sha.orr a b:Nat):Int):=by
 show (((BitVec.ofInt 32 (a:Int) ||| BitVec.ofInt 32 (b:Int)).toNat:Int) % 4294967296) = _
 rw [BitVec.toNat_or,BitVec.ofInt_natCast,BitVec.toNat_ofNat,BitVec.ofInt_natCast,BitVec.toNat_ofNat,← Nat.or_mod_two_pow]
 unfold Sha.orr
 have:(a ||| b) % 2 ^ 32 < 2 ^ 32:=Nat.mod_lt _ (by decide)
 omega
theorem u32_and_nat (a b:Nat):bits .and .u32 (a:Int) (b:Int) = ((Sha.an a b:Nat):Int):=by
 show (((BitVec.ofInt 32 (a:Int) &&& BitVec.ofInt 32 (b:Int)).toNat:Int) % 4294967296) = _
 rw [BitVec.toNat_and,BitVec.ofInt_natCast,BitVec.toNat_ofNat,BitVec.ofInt_natCast,BitVec.toNat_ofNat,← Nat.and_mod_two_pow]
 unfold Sha.an
 have:(a &&& b) % 2 ^ 32 < 2 ^ 32:=Nat.mod_lt _ (by decide)
 omega
theorem u32_xor_nat (a b:Nat):bits .xor .u32 (a:Int) (b:Int) = ((Sha.xr a b:Nat):Int):=by
 show (((BitVec.ofInt 32 (a:Int) ^^^ BitVec.ofInt 32 (b:Int)).toNat:Int) % 4294967296) = _
 rw [BitVec.toNat_xor,BitVec.ofInt_natCast,BitVec.toNat_ofNat,BitVec.ofInt_natCast,BitVec.toNat_ofNat,← Nat.xor_mod_two_pow]
 unfold Sha.xr
 have:(a ^^^ b) % 2 ^ 32 < 2 ^ 32:=Nat.mod_lt _ (by decide)
 omega
theorem u32_add_nat (a b:Nat):IntKind.u32.wrap ((a:Int) + (b:Int)) = ((Sha.ad a b:Nat):Int):=by
 show ((a:Int) + (b:Int)) % 4294967296 = _
 unfold Sha.ad
 omega
def Turns (n:Nat):Prop:=n = 2∨n = 6∨n = 7∨n = 11∨n = 13∨n = 17∨n = 18∨n = 19∨n = 22∨n = 25
theorem rt_int (x n a b:Nat) (ha:2 ^ n = a) (hb:2 ^ (32 - n) = b):bits .or .u32 ((x:Int) / (a:Int)) ((x:Int) * (b:Int) % 4294967296) = ((Sha.rt x n:Nat):Int):=by
 subst ha hb
 unfold Sha.rt Sha.sr Sha.sl
 rw [← u32_or_nat]
 congr 1
theorem rt_intC (x n a b:Nat) (ha:2 ^ n = a) (hb:2 ^ (32 - n) = b):bits .or .u32 ((x:Int) * (b:Int) % 4294967296) ((x:Int) / (a:Int)) = ((Sha.rt x n:Nat):Int):=by
 subst ha hb
 unfold Sha.rt
 rw [Sha.orr_comm]
 unfold Sha.sr Sha.sl
 rw [← u32_or_nat]
 congr 1
theorem numRet {k:IntKind} {a b:Int} (h:a = b):Ending.returned (.int k a) = .returned (.int k b):=by rw [h]
set_option maxRecDepth 100000 in
theorem l03Turn_any (x n:Nat) (hn:Turns n) (w:World) :
  Calls Tryz.prog 168 #[.int .u32 (x:Int),.int .u64 (n:Int)] w fun e w' => e = .returned (.int .u32 ((Sha.rt x n:Nat):Int))∧w = w':=by
 rcases hn with rfl | rfl | rfl | rfl | rfl | rfl | rfl | rfl | rfl | rfl
 ·have E:Hid (_ = _):=rt_int x 2 4 1073741824 (by decide) (by decide)
  go_enter Tryz.func168,Tryz.ntmps168
  go_wp2
  go_ret
  exact ⟨numRet E.out,rfl⟩
 ·have E:Hid (_ = _):=rt_int x 6 64 67108864 (by decide) (by decide)
  go_enter Tryz.func168,Tryz.ntmps168
  go_wp2
  go_ret
  exact ⟨numRet E.out,rfl⟩
 ·have E:Hid (_ = _):=rt_int x 7 128 33554432 (by decide) (by decide)
  go_enter Tryz.func168,Tryz.ntmps168
  go_wp2
  go_ret
  exact ⟨numRet E.out,rfl⟩
 ·have E:Hid (_ = _):=rt_int x 11 2048 2097152 (by decide) (by decide)
  go_enter Tryz.func168,Tryz.ntmps168
  go_wp2
  go_ret
  exact ⟨numRet E.out,rfl⟩
 ·have E:Hid (_ = _):=rt_int x 13 8192 524288 (by decide) (by decide)
  go_enter Tryz.func168,Tryz.ntmps168
  go_wp2
  go_ret
  exact ⟨numRet E.out,rfl⟩
 ·have E:Hid (_ = _):=rt_int x 17 131072 32768 (by decide) (by decide)
  go_enter Tryz.func168,Tryz.ntmps168
  go_wp2
  go_ret
  exact ⟨numRet E.out,rfl⟩
 ·have E:Hid (_ = _):=rt_int x 18 262144 16384 (by decide) (by decide)
  go_enter Tryz.func168,Tryz.ntmps168
  go_wp2
  go_ret
  exact ⟨numRet E.out,rfl⟩
 ·have E:Hid (_ = _):=rt_int x 19 524288 8192 (by decide) (by decide)
  go_enter Tryz.func168,Tryz.ntmps168
  go_wp2
  go_ret
  exact ⟨numRet E.out,rfl⟩
 ·have E:Hid (_ = _):=rt_int x 22 4194304 1024 (by decide) (by decide)
  go_enter Tryz.func168,Tryz.ntmps168
  go_wp2
  go_ret
  exact ⟨numRet E.out,rfl⟩
 ·have E:Hid (_ = _):=rt_int x 25 33554432 128 (by decide) (by decide)
  go_enter Tryz.func168,Tryz.ntmps168
  go_wp2
  go_ret
  exact ⟨numRet E.out,rfl⟩
set_option maxRecDepth 100000 in
theorem rotl_any (x n:Nat) (hn:Turns n) (w:World) :
  Calls Tryz.prog 211 #[.int .u32 (x:Int),.int .i64 (-(n:Int))] w fun e w' => e = .returned (.int .u32 ((Sha.rt x n:Nat):Int))∧w = w':=by
 rcases hn with rfl | rfl | rfl | rfl | rfl | rfl | rfl | rfl | rfl | rfl
 ·have q1:bits .and .u64 (IntKind.u64.wrap (-((2:Nat):Int))) 31 = 30:=by decide
  have q2:bits .and .u64 (IntKind.u64.wrap (-2)) 31 = 30:=by decide
  have E:Hid (_ = _):=rt_intC x 2 4 1073741824 (by decide) (by decide)
  go_enter Tryz.func211,Tryz.ntmps211
  go_wp2
  go_ret
  exact ⟨numRet E.out,rfl⟩
 ·have q1:bits .and .u64 (IntKind.u64.wrap (-((6:Nat):Int))) 31 = 26:=by decide
  have q2:bits .and .u64 (IntKind.u64.wrap (-6)) 31 = 26:=by decide
  have E:Hid (_ = _):=rt_intC x 6 64 67108864 (by decide) (by decide)
  go_enter Tryz.func211,Tryz.ntmps211
  go_wp2
  go_ret
  exact ⟨numRet E.out,rfl⟩
 ·have q1:bits .and .u64 (IntKind.u64.wrap (-((7:Nat):Int))) 31 = 25:=by decide
  have q2:bits .and .u64 (IntKind.u64.wrap (-7)) 31 = 25:=by decide
  have E:Hid (_ = _):=rt_intC x 7 128 33554432 (by decide) (by decide)
  go_enter Tryz.func211,Tryz.ntmps211
  go_wp2
  go_ret
  exact ⟨numRet E.out,rfl⟩
 ·have q1:bits .and .u64 (IntKind.u64.wrap (-((11:Nat):Int))) 31 = 21:=by decide
  have q2:bits .and .u64 (IntKind.u64.wrap (-11)) 31 = 21:=by decide
  have E:Hid (_ = _):=rt_intC x 11 2048 2097152 (by decide) (by decide)
  go_enter Tryz.func211,Tryz.ntmps211
  go_wp2
  go_ret
  exact ⟨numRet E.out,rfl⟩
 ·have q1:bits .and .u64 (IntKind.u64.wrap (-((13:Nat):Int))) 31 = 19:=by decide
  have q2:bits .and .u64 (IntKind.u64.wrap (-13)) 31 = 19:=by decide
  have E:Hid (_ = _):=rt_intC x 13 8192 524288 (by decide) (by decide)
  go_enter Tryz.func211,Tryz.ntmps211
  go_wp2
  go_ret
  exact ⟨numRet E.out,rfl⟩
 ·have q1:bits .and .u64 (IntKind.u64.wrap (-((17:Nat):Int))) 31 = 15:=by decide
  have q2:bits .and .u64 (IntKind.u64.wrap (-17)) 31 = 15:=by decide
  have E:Hid (_ = _):=rt_intC x 17 131072 32768 (by decide) (by decide)
  go_enter Tryz.func211,Tryz.ntmps211
  go_wp2
  go_ret
  exact ⟨numRet E.out,rfl⟩
 ·have q1:bits .and .u64 (IntKind.u64.wrap (-((18:Nat):Int))) 31 = 14:=by decide
  have q2:bits .and .u64 (IntKind.u64.wrap (-18)) 31 = 14:=by decide
  have E:Hid (_ = _):=rt_intC x 18 262144 16384 (by decide) (by decide)
  go_enter Tryz.func211,Tryz.ntmps211
  go_wp2
  go_ret
  exact ⟨numRet E.out,rfl⟩
 ·have q1:bits .and .u64 (IntKind.u64.wrap (-((19:Nat):Int))) 31 = 13:=by decide
  have q2:bits .and .u64 (IntKind.u64.wrap (-19)) 31 = 13:=by decide
  have E:Hid (_ = _):=rt_intC x 19 524288 8192 (by decide) (by decide)
  go_enter Tryz.func211,Tryz.ntmps211
  go_wp2
  go_ret
  exact ⟨numRet E.out,rfl⟩
 ·have q1:bits .and .u64 (IntKind.u64.wrap (-((22:Nat):Int))) 31 = 10:=by decide
  have q2:bits .and .u64 (IntKind.u64.wrap (-22)) 31 = 10:=by decide
  have E:Hid (_ = _):=rt_intC x 22 4194304 1024 (by decide) (by decide)
  go_enter Tryz.func211,Tryz.ntmps211
  go_wp2
  go_ret
  exact ⟨numRet E.out,rfl⟩
 ·have q1:bits .and .u64 (IntKind.u64.wrap (-((25:Nat):Int))) 31 = 7:=by decide
  have q2:bits .and .u64 (IntKind.u64.wrap (-25)) 31 = 7:=by decide
  have E:Hid (_ = _):=rt_intC x 25 33554432 128 (by decide) (by decide)
  go_enter Tryz.func211,Tryz.ntmps211
  go_wp2
  go_ret
  exact ⟨numRet E.out,rfl⟩
set_option maxRecDepth 100000 in
theorem turned_any (x n:Nat) (hn:Turns n) (w:World) :
  Calls Tryz.prog 192 #[.int .u32 (x:Int),.int .i64 (n:Int)] w fun e w' => e = .returned (.int .u32 ((Sha.rt x n:Nat):Int))∧w = w':=by
 have RL:Hid (∀ w:World,Calls Tryz.prog 211 #[.int .u32 (x:Int),.int .i64 (-(n:Int))] w fun e w' => e = .returned (.int .u32 ((Sha.rt x n:Nat):Int))∧w = w'):=rotl_any x n hn
 have hn':n≤25:=by unfold Turns at hn; omega
 clear hn
 generalize Sha.rt x n = R at *
 go_enter Tryz.func192,Tryz.ntmps192
 go_wp2_with fail
 refine (RL.out _).mono ?_
 rintro e w' ⟨rfl,rfl⟩
 go_wp2
 go_ret
 exact ⟨rfl,rfl⟩
end Go.Proofs.YtcpjeopnhgoonaaGreatDoor
