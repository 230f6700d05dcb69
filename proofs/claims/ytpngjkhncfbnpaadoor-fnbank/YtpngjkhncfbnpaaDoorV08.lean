/-
  Texts of the proof, joined: Words, WRows, Spread, After.
-/
import Derived.Test.YtpngjkhncfbnpaaDoorV07
import Derived.Test.YtpngjkhncfbnpaaDoorV06
import Derived.BigRegion
import Derived.Test.YtpngjkhncfbnpaaDoorV05
import Derived.Deep.RegionWith
namespace Go.Proofs.YtpngjkhncfbnpaaDoor
open Go.ChangeShapes Go.WideShapes Go.ChangeAt Go.RowKit
theorem u32_or_nat (a b : Nat) : bits .or .u32 (a : Int) (b : Int) = ((Sha.orr a b : Nat) : Int) := by
  show (((BitVec.ofInt 32 (a : Int) ||| BitVec.ofInt 32 (b : Int)).toNat : Int) % 4294967296) = _
  rw [BitVec.toNat_or, BitVec.ofInt_natCast, BitVec.toNat_ofNat, BitVec.ofInt_natCast, BitVec.toNat_ofNat, ← Nat.or_mod_two_pow]
  unfold Sha.orr
  have : (a ||| b) % 2 ^ 32 < 2 ^ 32 := Nat.mod_lt _ (by decide)
  omega
theorem u32_and_nat (a b : Nat) : bits .and .u32 (a : Int) (b : Int) = ((Sha.an a b : Nat) : Int) := by
  show (((BitVec.ofInt 32 (a : Int) &&& BitVec.ofInt 32 (b : Int)).toNat : Int) % 4294967296) = _
  rw [BitVec.toNat_and, BitVec.ofInt_natCast, BitVec.toNat_ofNat, BitVec.ofInt_natCast, BitVec.toNat_ofNat, ← Nat.and_mod_two_pow]
  unfold Sha.an
  have : (a &&& b) % 2 ^ 32 < 2 ^ 32 := Nat.mod_lt _ (by decide)
  omega
theorem u32_xor_nat (a b : Nat) : bits .xor .u32 (a : Int) (b : Int) = ((Sha.xr a b : Nat) : Int) := by
  show (((BitVec.ofInt 32 (a : Int) ^^^ BitVec.ofInt 32 (b : Int)).toNat : Int) % 4294967296) = _
  rw [BitVec.toNat_xor, BitVec.ofInt_natCast, BitVec.toNat_ofNat, BitVec.ofInt_natCast, BitVec.toNat_ofNat, ← Nat.xor_mod_two_pow]
  unfold Sha.xr
  have : (a ^^^ b) % 2 ^ 32 < 2 ^ 32 := Nat.mod_lt _ (by decide)
  omega
theorem u32_add_nat (a b : Nat) : IntKind.u32.wrap ((a : Int) + (b : Int)) = ((Sha.ad a b : Nat) : Int) := by
  show ((a : Int) + (b : Int)) % 4294967296 = _
  unfold Sha.ad
  omega
def Turns (n : Nat) : Prop := n = 2 ∨ n = 6 ∨ n = 7 ∨ n = 11 ∨ n = 13 ∨ n = 17 ∨ n = 18 ∨ n = 19 ∨ n = 22 ∨ n = 25
theorem rt_int (x n a b : Nat) (ha : 2 ^ n = a) (hb : 2 ^ (32 - n) = b) : bits .or .u32 ((x : Int) / (a : Int)) ((x : Int) * (b : Int) % 4294967296) = ((Sha.rt x n : Nat) : Int) := by
  subst ha hb
  unfold Sha.rt Sha.sr Sha.sl
  rw [← u32_or_nat]
  congr 1
theorem numRet {k : IntKind} {a b : Int} (h : a = b) : Ending.returned (.int k a) = .returned (.int k b) := by rw [h]
set_option maxRecDepth 100000 in
theorem l03Turn_any (x n : Nat) (hn : Turns n) (w : World) :
    Calls Tryd.prog 124 #[.int .u32 (x : Int), .int .u64 (n : Int)] w fun e w' => e = .returned (.int .u32 ((Sha.rt x n : Nat) : Int)) ∧ w = w' := by
  rcases hn with rfl | rfl | rfl | rfl | rfl | rfl | rfl | rfl | rfl | rfl
  · have E : Hid (_ = _) := rt_int x 2 4 1073741824 (by decide) (by decide)
    go_enter Tryd.func124, Tryd.ntmps124
    go_wp2
    go_ret
    exact ⟨numRet E.out, rfl⟩
  · have E : Hid (_ = _) := rt_int x 6 64 67108864 (by decide) (by decide)
    go_enter Tryd.func124, Tryd.ntmps124
    go_wp2
    go_ret
    exact ⟨numRet E.out, rfl⟩
  · have E : Hid (_ = _) := rt_int x 7 128 33554432 (by decide) (by decide)
    go_enter Tryd.func124, Tryd.ntmps124
    go_wp2
    go_ret
    exact ⟨numRet E.out, rfl⟩
  · have E : Hid (_ = _) := rt_int x 11 2048 2097152 (by decide) (by decide)
    go_enter Tryd.func124, Tryd.ntmps124
    go_wp2
    go_ret
    exact ⟨numRet E.out, rfl⟩
  · have E : Hid (_ = _) := rt_int x 13 8192 524288 (by decide) (by decide)
    go_enter Tryd.func124, Tryd.ntmps124
    go_wp2
    go_ret
    exact ⟨numRet E.out, rfl⟩
  · have E : Hid (_ = _) := rt_int x 17 131072 32768 (by decide) (by decide)
    go_enter Tryd.func124, Tryd.ntmps124
    go_wp2
    go_ret
    exact ⟨numRet E.out, rfl⟩
  · have E : Hid (_ = _) := rt_int x 18 262144 16384 (by decide) (by decide)
    go_enter Tryd.func124, Tryd.ntmps124
    go_wp2
    go_ret
    exact ⟨numRet E.out, rfl⟩
  · have E : Hid (_ = _) := rt_int x 19 524288 8192 (by decide) (by decide)
    go_enter Tryd.func124, Tryd.ntmps124
    go_wp2
    go_ret
    exact ⟨numRet E.out, rfl⟩
  · have E : Hid (_ = _) := rt_int x 22 4194304 1024 (by decide) (by decide)
    go_enter Tryd.func124, Tryd.ntmps124
    go_wp2
    go_ret
    exact ⟨numRet E.out, rfl⟩
  · have E : Hid (_ = _) := rt_int x 25 33554432 128 (by decide) (by decide)
    go_enter Tryd.func124, Tryd.ntmps124
    go_wp2
    go_ret
    exact ⟨numRet E.out, rfl⟩
end Go.Proofs.YtpngjkhncfbnpaaDoor
namespace Go.Proofs.YtpngjkhncfbnpaaDoor
open Go.ChangeShapes Go.WideShapes Go.ChangeAt Go.RowKit
def wv (n : Nat) (f : Nat → Nat) : List Value := (List.range n).map fun i => .int .u32 (f i : Nat)
def wA (n : Nat) (f : Nat → Nat) : Array Value := (wv n f).toArray
theorem wv_length (n : Nat) (f : Nat → Nat) : (wv n f).length = n := by simp [wv]
theorem wA_size (n : Nat) (f : Nat → Nat) : (wA n f).size = n := by simp [wA, wv]
theorem wv_at {n : Nat} {f : Nat → Nat} {k : Nat} (h : k < n) : (wv n f)[k]? = some (.int .u32 (f k : Nat)) := by simp [wv, h]
theorem wA_at {n : Nat} {f : Nat → Nat} {k : Nat} (h : k < n) : (wA n f)[k]? = some (.int .u32 (f k : Nat)) := by rw [wA, List.getElem?_toArray]; exact wv_at h
def RowW (w : World) (b : Nat) (t : TypeId) (n : Nat) (f : Nat → Nat) : Prop := w.rowIs b t n (fun i => .int .u32 (f i : Nat))
theorem RowW.boxed (w : World) (t : TypeId) (n : Nat) (f : Nat → Nat) : RowW (w.alloc (.cells (wA n f) t)) w.heap.size t n f := by
  have := World.rowIs_alloc w (wA n f) t (fun i => .int .u32 (f i : Nat)) (fun i hi => wA_at (by rwa [wA_size] at hi))
  rw [wA_size] at this
  exact this
theorem RowW.set {w : World} {b n : Nat} {t : TypeId} {f : Nat → Nat} (h : RowW w b t n f) (i v : Nat) : RowW (w.setCell ⟨b, i, none⟩ (.int .u32 (v : Nat))) b t n (fun j => if j = i then v else f j) :=
  (World.rowIs.set h i _).congr (fun j _ => by by_cases e : j = i <;> simp [e])
theorem RowW.congr {w : World} {b n : Nat} {t : TypeId} {f g : Nat → Nat} (h : RowW w b t n f) (e : ∀ i, i < n → f i = g i) : RowW w b t n g := World.rowIs.congr h (fun i hi => by rw [e i hi])
theorem RowW.below {w w' : World} {b n : Nat} {t : TypeId} {f : Nat → Nat} (h : RowW w b t n f) (hb : Below w.heap.size w w') : RowW w' b t n f := World.rowIs.of_block h (hb.block b h.lt)
theorem RowW.alloc {w : World} {b n : Nat} {t : TypeId} {f : Nat → Nat} (h : RowW w b t n f) (o : Obj) : RowW (w.alloc o) b t n f := World.rowIs.alloc h o
theorem RowW.onlyB {w w' : World} {b c n : Nat} {t : TypeId} {f : Nat → Nat} (h : RowW w b t n f) (ho : OnlyB c w w') (hne : b ≠ c) : RowW w' b t n f := World.rowIs.of_block h (ho.block b h.lt hne)
end Go.Proofs.YtpngjkhncfbnpaaDoor
namespace Go.Proofs.YtpngjkhncfbnpaaDoor
open Go.ChangeShapes Go.WideShapes Go.ChangeAt Go.RowKit
theorem word_int (a b c d : Nat) : bits .or .u32 (bits .or .u32 (bits .or .u32 ((a : Int) * 16777216 % 4294967296) ((b : Int) * 65536 % 4294967296)) ((c : Int) * 256 % 4294967296)) (d : Int) = ((Sha.orr (Sha.orr (Sha.orr (Sha.sl a 24) (Sha.sl b 16)) (Sha.sl c 8)) d : Nat) : Int) := by
  rw [← u32_or_nat, ← u32_or_nat, ← u32_or_nat]
  unfold Sha.sl
  congr 1
theorem s0_int (a : Nat) : bits .xor .u32 (bits .xor .u32 ((Sha.rt a 7 : Nat) : Int) ((Sha.rt a 18 : Nat) : Int)) ((a : Int) / 8) = ((Sha.s0 a : Nat) : Int) := by
  unfold Sha.s0 Sha.sr
  rw [← u32_xor_nat, ← u32_xor_nat]
  congr 1
theorem s1_int (a : Nat) : bits .xor .u32 (bits .xor .u32 ((Sha.rt a 17 : Nat) : Int) ((Sha.rt a 19 : Nat) : Int)) ((a : Int) / 1024) = ((Sha.s1 a : Nat) : Int) := by
  unfold Sha.s1 Sha.sr
  rw [← u32_xor_nat, ← u32_xor_nat]
  congr 1
end Go.Proofs.YtpngjkhncfbnpaaDoor
namespace Go.Proofs.YtpngjkhncfbnpaaDoor
open Go.ChangeShapes Go.WideShapes Go.ChangeAt Go.RowKit
theorem big_int (x y z : Nat) : bits .xor .u32 (bits .xor .u32 (x : Int) (y : Int)) (z : Int) = ((Sha.xr (Sha.xr x y) z : Nat) : Int) := by rw [u32_xor_nat, u32_xor_nat]
theorem nt_int (e : Nat) : bits .xor .u32 4294967295 (e : Int) = ((Sha.nt e : Nat) : Int) := u32_xor_nat 4294967295 e
end Go.Proofs.YtpngjkhncfbnpaaDoor
