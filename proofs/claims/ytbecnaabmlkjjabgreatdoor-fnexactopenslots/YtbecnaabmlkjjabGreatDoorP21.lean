/-
  Texts of the proof, joined: GfLaws, MixMath, MixSpec, DecMath, AesMath, ModesMath, Jump, Modes, Counter, Ctr.
-/
import Derived.Test.YtbecnaabmlkjjabGreatDoorP05
import Derived.Test.YtbecnaabmlkjjabGreatDoorP18
import Derived.OwnWalk
import Derived.Laws.OwnMore
import Derived.Test.YtbecnaabmlkjjabGreatDoorP14
import Derived.WalkKit
import Derived.WalkMore
import Derived.ScopeJumps
import Derived.Test.YtbecnaabmlkjjabGreatDoorP20
import Derived.Deep.RegionWith
namespace Go.Proofs.YtbecnaabmlkjjabGreatDoor.Gf
theorem xor4 (a b c d : Nat) : (a ^^^ b) ^^^ (c ^^^ d) = (a ^^^ c) ^^^ (b ^^^ d) := by
  rw [Nat.xor_assoc, Nat.xor_assoc, ← Nat.xor_assoc b c d, Nat.xor_comm b c, Nat.xor_assoc c b d]
theorem bit27 : ∀ p, p < 2 → ∀ q, q < 2 → (p ^^^ q) * 27 = (p * 27) ^^^ (q * 27) := by decide
theorem xor_double (a b : Nat) : (a ^^^ b) * 2 % 256 = (a * 2 % 256) ^^^ (b * 2 % 256) := by
  have e : ∀ n : Nat, n * 2 = n <<< 1 := fun n => by rw [Nat.shiftLeft_eq]
  rw [e, e, e, Nat.shiftLeft_xor_distrib]
  exact Nat.xor_mod_two_pow (n := 8)
theorem xor_high (a b : Nat) : (a ^^^ b) / 128 = (a / 128) ^^^ (b / 128) := by
  have e : ∀ n : Nat, n / 128 = n >>> 7 := fun n => by rw [Nat.shiftRight_eq_div_pow]
  rw [e, e, e, Nat.shiftRight_xor_distrib]
theorem dbl_xor_fin (a : Nat) (ha : a < 256) (b : Nat) (hb : b < 256) : dbl (a ^^^ b) = dbl a ^^^ dbl b := by
  rw [← dblB_eq_fin _ (xor_lt ha hb), ← dblB_eq_fin _ ha, ← dblB_eq_fin _ hb]
  unfold dblB
  rw [xor_double, xor_high, bit27 _ (by omega) _ (by omega), xor4]
theorem bit_xor (b c k : Nat) : (b ^^^ c) / 2 ^ k % 2 = (b / 2 ^ k % 2 + c / 2 ^ k % 2) % 2 := by
  have e : ∀ n, n / 2 ^ k % 2 = (n.testBit k).toNat := fun n => by
    rw [Nat.testBit_eq_decide_div_mod_eq]
    rcases Nat.mod_two_eq_zero_or_one (n / 2 ^ k) with h | h <;> simp [h]
  rw [e, e, e, Nat.testBit_xor]
  cases b.testBit k <;> cases c.testBit k <;> rfl
theorem mulTo_fst_same (k a b c : Nat) : (mulTo k a b).1 = (mulTo k a c).1 := by
  induction k with
  | zero => rfl
  | succ k ih => rw [mulTo_fst, mulTo_fst, ih]
/-- Parted over sums of the second factor. -/
theorem mulTo_xor (k a b c : Nat) : (mulTo k a (b ^^^ c)).2 = (mulTo k a b).2 ^^^ (mulTo k a c).2 := by
  induction k with
  | zero => simp [mulTo]
  | succ k ih =>
    have hx := bit_xor b c k
    have f1 := mulTo_fst_same k a (b ^^^ c) c
    have f2 := mulTo_fst_same k a b c
    rcases Nat.mod_two_eq_zero_or_one (b / 2 ^ k) with h | h <;> rcases Nat.mod_two_eq_zero_or_one (c / 2 ^ k) with g | g <;> rw [h, g] at hx
    · rw [mulTo_no k a _ hx, mulTo_no k a _ h, mulTo_no k a _ g, ih]
    · rw [mulTo_yes k a _ hx, mulTo_no k a _ h, mulTo_yes k a _ g, ih, f1, Nat.xor_assoc]
    · rw [mulTo_yes k a _ hx, mulTo_yes k a _ h, mulTo_no k a _ g, ih, f1, f2, Nat.xor_assoc, Nat.xor_assoc, Nat.xor_comm (mulTo k a c).2]
    · rw [mulTo_no k a _ hx, mulTo_yes k a _ h, mulTo_yes k a _ g, ih, f2, xor4, Nat.xor_self, Nat.xor_zero]
theorem mul_xor (a b c : Nat) : mul a (b ^^^ c) = mul a b ^^^ mul a c := mulTo_xor 8 a b c
/-- Parted over sums of the first factor. -/
theorem mulTo_xorL (k a b c : Nat) (ha : a < 256) (hb : b < 256) : (mulTo k (a ^^^ b) c).1 = (mulTo k a c).1 ^^^ (mulTo k b c).1 ∧ (mulTo k (a ^^^ b) c).2 = (mulTo k a c).2 ^^^ (mulTo k b c).2 := by
  induction k with
  | zero => simp [mulTo]
  | succ k ih =>
    have l1 := mulTo_lt k a c ha
    have l2 := mulTo_lt k b c hb
    refine ⟨by rw [mulTo_fst, mulTo_fst, mulTo_fst, ih.1]; exact dbl_xor_fin _ l1.1 _ l2.1, ?_⟩
    rcases Nat.mod_two_eq_zero_or_one (c / 2 ^ k) with g | g
    · rw [mulTo_no k _ _ g, mulTo_no k _ _ g, mulTo_no k _ _ g, ih.2]
    · rw [mulTo_yes k _ _ g, mulTo_yes k _ _ g, mulTo_yes k _ _ g, ih.1, ih.2, xor4]
theorem mul_xorL (a b c : Nat) (ha : a < 256) (hb : b < 256) : mul (a ^^^ b) c = mul a c ^^^ mul b c := (mulTo_xorL 8 a b c ha hb).2
/-- A byte is the sum of its bits. -/
def bitOf (x k : Nat) : Nat := if x / 2 ^ k % 2 = 1 then 2 ^ k else 0
def sumBits (x : Nat) : Nat := ((((((bitOf x 0 ^^^ bitOf x 1) ^^^ bitOf x 2) ^^^ bitOf x 3) ^^^ bitOf x 4) ^^^ bitOf x 5) ^^^ bitOf x 6) ^^^ bitOf x 7
theorem sumBits_eq : ∀ x, x < 256 → sumBits x = x := by decide +kernel
theorem bitOf_lt (x k : Nat) (h : k < 8) : bitOf x k < 256 := by
  unfold bitOf
  split
  · exact Nat.pow_lt_pow_right (by omega) (show k < 8 from h)
  · omega
/-- Two functions that go over sums are the same on bytes if they are on single bits and at nought. -/
theorem lin_ext (f g : Nat → Nat) (hf : ∀ x y, x < 256 → y < 256 → f (x ^^^ y) = f x ^^^ f y) (hg : ∀ x y, x < 256 → y < 256 → g (x ^^^ y) = g x ^^^ g y)
    (h0 : f 0 = g 0) (h : ∀ k, k < 8 → f (2 ^ k) = g (2 ^ k)) (x : Nat) (hx : x < 256) : f x = g x := by
  have hb : ∀ k, k < 8 → f (bitOf x k) = g (bitOf x k) := fun k hk => by
    unfold bitOf; split
    · exact h k hk
    · exact h0
  have l := fun k (hk : k < 8) => bitOf_lt x k hk
  have p0 := l 0 (by omega); have p1 := l 1 (by omega); have p2 := l 2 (by omega); have p3 := l 3 (by omega)
  have p4 := l 4 (by omega); have p5 := l 5 (by omega); have p6 := l 6 (by omega); have p7 := l 7 (by omega)
  have q1 := xor_lt p0 p1; have q2 := xor_lt q1 p2; have q3 := xor_lt q2 p3; have q4 := xor_lt q3 p4; have q5 := xor_lt q4 p5; have q6 := xor_lt q5 p6
  rw [← sumBits_eq x hx]
  unfold sumBits
  rw [hf _ _ q6 p7, hf _ _ q5 p6, hf _ _ q4 p5, hf _ _ q3 p4, hf _ _ q2 p3, hf _ _ q1 p2, hf _ _ p0 p1]
  rw [hg _ _ q6 p7, hg _ _ q5 p6, hg _ _ q4 p5, hg _ _ q3 p4, hg _ _ q2 p3, hg _ _ q1 p2, hg _ _ p0 p1]
  rw [hb 0 (by omega), hb 1 (by omega), hb 2 (by omega), hb 3 (by omega), hb 4 (by omega), hb 5 (by omega), hb 6 (by omega), hb 7 (by omega)]
theorem pow_lt8 (k : Nat) (h : k < 8) : 2 ^ k < 256 := Nat.pow_lt_pow_right (by omega) (show k < 8 from h)
theorem comm_bits : ∀ j, j < 8 → ∀ k, k < 8 → mul (2 ^ j) (2 ^ k) = mul (2 ^ k) (2 ^ j) := by decide +kernel
theorem mul_zero (a : Nat) : mul a 0 = 0 := by
  have := mul_of_rest 0 a 0 (by omega) (by simp)
  rw [← this]; rfl
theorem zero_mul_fin : ∀ k, k < 8 → mul 0 (2 ^ k) = 0 := by decide +kernel
theorem zero_mul (b : Nat) (hb : b < 256) : mul 0 b = 0 :=
  lin_ext (fun b => mul 0 b) (fun _ => 0) (fun x y _ _ => mul_xor 0 x y) (fun _ _ _ _ => rfl) (mul_zero 0) (fun k hk => zero_mul_fin k hk) b hb
/-- In any order. -/
theorem mul_comm (a b : Nat) (ha : a < 256) (hb : b < 256) : mul a b = mul b a := by
  refine lin_ext (fun a => mul a b) (fun a => mul b a) (fun x y hx hy => mul_xorL x y b hx hy) (fun x y _ _ => mul_xor b x y) ?_ (fun j hj => ?_) a ha
  · show mul 0 b = mul b 0
    rw [zero_mul b hb, mul_zero]
  · show mul (2 ^ j) b = mul b (2 ^ j)
    refine lin_ext (fun b => mul (2 ^ j) b) (fun b => mul b (2 ^ j)) (fun x y _ _ => mul_xor _ x y) (fun x y hx hy => mul_xorL x y _ hx hy) ?_ (fun k hk => comm_bits j hj k hk) b hb
    show mul (2 ^ j) 0 = mul 0 (2 ^ j)
    rw [zero_mul _ (pow_lt8 j hj), mul_zero]
end Go.Proofs.YtbecnaabmlkjjabGreatDoor.Gf
namespace Go.Proofs.YtbecnaabmlkjjabGreatDoor.Gf
end Go.Proofs.YtbecnaabmlkjjabGreatDoor.Gf
namespace Go.Proofs.YtbecnaabmlkjjabGreatDoor
open Go.ChangeShapes Go.WideShapes Go.ChangeAt Go.RowKit
namespace Gf
end Gf
namespace Gf
end Gf
end Go.Proofs.YtbecnaabmlkjjabGreatDoor
namespace Go.Proofs.YtbecnaabmlkjjabGreatDoor
namespace Gf
end Gf
end Go.Proofs.YtbecnaabmlkjjabGreatDoor
namespace Go.Proofs.YtbecnaabmlkjjabGreatDoor
namespace Gf
/-- Alike at the sixteen places. -/
def Same (f g : Nat → Nat) : Prop := ∀ j, j < 16 → f j = g j
theorem Same.trans {f g h : Nat → Nat} (a : Same f g) (b : Same g h) : Same f h := fun j hj => (a j hj).trans (b j hj)
theorem same_addK {f g : Nat → Nat} (h : Same f g) (k : Nat → Nat) : Same (addK f k) (addK g k) := fun j hj => by unfold addK; rw [h j hj]
theorem same_mixS {f g : Nat → Nat} (h : Same f g) : Same (mixS f) (mixS g) := fun j hj => by
  have m := Nat.mod_lt (j % 4 + 1) (show 0 < 4 by omega)
  unfold mixS mixAt
  rw [h (j / 4 * 4) (by omega), h (j / 4 * 4 + 1) (by omega), h (j / 4 * 4 + 2) (by omega), h (j / 4 * 4 + 3) (by omega), h (j / 4 * 4 + j % 4) (by omega), h (j / 4 * 4 + (j % 4 + 1) % 4) (by omega)]
end Gf
theorem kstr_same {f g : Nat → Nat} (h : Gf.Same f g) : kstr f 0 16 = kstr g 0 16 := kstr_congr (fun i hi => by rw [Nat.zero_add]; exact h i hi)
end Go.Proofs.YtbecnaabmlkjjabGreatDoor
namespace Go.Proofs.YtbecnaabmlkjjabGreatDoor
namespace Gf
theorem same_subTurn {f g : Nat → Nat} (h : Same f g) : Same (subTurn f) (subTurn g) := fun j _ => by unfold subTurn; rw [h _ (ord_lt j)]
theorem same_encTo {K f g : Nat → Nat} (h : Same f g) : ∀ i, Same (encTo K f i) (encTo K g i)
  | 0 => same_addK h _
  | i + 1 => same_addK (same_mixS (same_subTurn (same_encTo h i))) _
theorem same_enc {K f g : Nat → Nat} {R : Nat} (h : Same f g) : Same (enc K R f) (enc K R g) := same_addK (same_subTurn (same_encTo h _)) _
theorem Same.symm {f g : Nat → Nat} (h : Same f g) : Same g f := fun j hj => (h j hj).symm
theorem Same.refl (f : Nat → Nat) : Same f f := fun _ _ => rfl
end Gf
/-- The block of a nonce and a counter. -/
def ctrBlk (N : Nat → Nat) (k j : Nat) : Nat := if j < 12 then N j else k / 256 ^ (15 - j) % 256
theorem ctrBlk_lt {N : Nat → Nat} (hN : ∀ j, N j < 256) (k j : Nat) : ctrBlk N k j < 256 := by
  unfold ctrBlk
  split
  · exact hN j
  · exact Nat.mod_lt _ (by omega)
/-- What a stream puts on at place x. -/
def ctrK (K : Nat → Nat) (R : Nat) (N : Nat → Nat) (x : Nat) : Nat := Gf.enc K R (ctrBlk N (x / 16 + 1)) (x % 16)
def ctrF (K : Nat → Nat) (R : Nat) (N f : Nat → Nat) (x : Nat) : Nat := f x ^^^ ctrK K R N x
theorem ctrK_lt {K N : Nat → Nat} {R : Nat} (hK : ∀ j, K j < 256) (hN : ∀ j, N j < 256) (x : Nat) : ctrK K R N x < 256 := Gf.enc_lt hK (fun j _ => ctrBlk_lt hN _ j) _
theorem ctrF_lt {K N f : Nat → Nat} {R : Nat} (hK : ∀ j, K j < 256) (hN : ∀ j, N j < 256) (hf : ∀ j, f j < 256) (x : Nat) : ctrF K R N f x < 256 := Gf.xor_lt (hf x) (ctrK_lt hK hN x)
end Go.Proofs.YtbecnaabmlkjjabGreatDoor
namespace Go.Proofs.YtbecnaabmlkjjabGreatDoor
theorem wp_scope_label {P : Program} {a : Act} {w : World} {Q : Exit → Act → World → Prop} {c body : Code} (l : Nat) (J : Act → World → Prop) (μ : Act → World → Nat) (hf : findLabel c l = some (Code.skip.seq body))
    (pass : ∀ a w, J a w → body.wp P (Exit.jump l (fun a' w' => J a' w' ∧ μ a' w' < μ a w) Q) a w)
    (first : (∀ a w, J a w → body.wp P (Exit.jump l J Q) a w) → c.wp P (Exit.jump l J Q) a w) : (Code.scope c).wp P Q a w :=
  wp_scope_jumps l J μ hf (first (fun a w h => Code.wp_mono (fun e a' w' hq => by
    cases e with
    | goto l' => exact ⟨hq.1, hq.2.1⟩
    | _ => exact hq) (pass a w h))) (fun a w h => wp_seq (wp_skip (pass a w h)))
theorem jump_ret {l : Nat} {J : Act → World → Prop} {Q : Exit → Act → World → Prop} {a : Act} {w : World} : Exit.jump l J Q .ret a w = Q .ret a w := rfl
/-- A slice's length. -/
def lenOf : Value → Nat | .slice _ n _ => n | _ => 0
end Go.Proofs.YtbecnaabmlkjjabGreatDoor
namespace Go.Proofs.YtbecnaabmlkjjabGreatDoor
open Go.ChangeShapes Go.WideShapes Go.ChangeAt Go.RowKit
theorem mf_ok (k s : ByteArray) (size count most : Int) (h3 : count ≤ most) (hk : k.size = 16 ∨ k.size = 32) (hs : (s.size : Int) = size) (hs' : size ≤ 65536) (w : World) :
    Calls Tryz.prog 117 #[.string k, .string s, .int .i64 size, .int .i64 count, .int .i64 most] w fun e w' => e = .returned (.int .i64 0) ∧ w = w' := by
  have e1 : ¬ (65536 : Int) < k.size := by omega
  have e2 : ¬ (65536 : Int) < s.size := by omega
  have e3 : ¬ most < count := by omega
  have e4 : ((s.size : Int) != size) = false := by rw [bne_eq_false_iff_eq]; omega
  have KO : Hid (∀ w : World, Calls Tryz.prog 128 #[.string k] w fun e w' => e = .returned (.bool true) ∧ w = w') := fun w => (keyOK_yes k hk w).mono fun e w' h => ⟨h.1, h.2.symm⟩
  clear hk hs
  go_enter Tryz.func117, Tryz.ntmps117
  go_wp2_with (go_at_call 128; refine (KO.out _).mono ?_; rintro e w' ⟨rfl, rfl⟩)
  go_ret
  exact ⟨rfl, rfl⟩
theorem OnlyB.drew8 {b : Nat} {w w' : World} (h : OnlyB b w w') : OnlyB b w w'.drew := ⟨h.os, h.tape, h.output, h.size, h.block⟩
end Go.Proofs.YtbecnaabmlkjjabGreatDoor
namespace Go.Proofs.YtbecnaabmlkjjabGreatDoor
open Go.ChangeShapes Go.WideShapes Go.ChangeAt Go.RowKit
set_option maxRecDepth 100000 in
set_option maxHeartbeats 2000000 in
theorem counterBlock_any (s : ByteArray) (hs : s.size = 12) (k : Nat) (hk : k < 4294967296) (w : World) :
    Calls Tryz.prog 122 #[.string s, .int .u32 (k : Int)] w fun e w' => e = .returned (.agg (bA 16 (ctrBlk (strB s) k))) ∧ Below w.heap.size w w' := by
  have SO : Hid (∀ w : World, Calls Tryz.prog 136 #[.string s] w fun e w' => e = .returned (.agg (bA 16 (strB s))) ∧ Below w.heap.size w w') := stateOf_le s (by omega)
  have Z1 : Hid (Row8 (w.alloc (.cells z16 159)) w.heap.size 159 16 (fun _ => 0)) := Row8.z16At rfl _
  have B1 : Hid (Below w.heap.size w (w.alloc (.cells z16 159))) := (Below.refl _ _).alloc (Nat.le_refl _) _
  have hz1 : (w.alloc (.cells z16 159)).heap.size = w.heap.size + 1 := by simp
  unfold z16 at Z1 B1 hz1
  clear hs
  obtain ⟨N, hN⟩ : ∃ N, N = strB s := ⟨_, rfl⟩
  rw [← hN] at SO ⊢
  clear hN
  have SA : Hid ((Tryz.prog.info? 159).map (·.size) = some (bA 16 N).size) := by rw [bA_size]; exact Tryz.sizeSt
  have OA : Hid ((bA 16 N).all (·.oneCell') = true) := bA_one _ _
  have TL : Hid ((bA 16 N).toList = bv 16 N) := bA_toList _ _
  have BS : Hid ((bA 16 N).size = 16) := bA_size _ _
  generalize bA 16 N = NA at *
  go_enter Tryz.func122, Tryz.ntmps122
  go_wp2_with fail
  generalize w.alloc (.cells #[.int .u8 0, .int .u8 0, .int .u8 0, .int .u8 0, .int .u8 0, .int .u8 0, .int .u8 0, .int .u8 0, .int .u8 0, .int .u8 0, .int .u8 0, .int .u8 0, .int .u8 0, .int .u8 0, .int .u8 0, .int .u8 0] 159) = wa at *
  refine (SO.out _).mono ?_
  rintro e w1 ⟨rfl, hb⟩
  have Z2 : Hid (Row8 w1 w.heap.size 159 16 (fun _ => 0)) := Z1.out.below hb
  have B2 : Hid (Below w.heap.size w w1) := B1.out.trans (hb.mono B1.out.size)
  have hsz := hb.size
  rw [hz1] at hsz
  have Z3 : Hid (Row8 (w1.alloc (.cells z16 159)) w1.heap.size 159 16 (fun _ => 0)) := Row8.z16At rfl _
  have Z4 : Hid (Row8 (w1.alloc (.cells z16 159)) w.heap.size 159 16 (fun _ => 0)) := Z2.out.alloc _
  have B3 : Hid (Below w.heap.size w (w1.alloc (.cells z16 159))) := B2.out.alloc (by omega) _
  clear hb Z1 B1 Z2 B2 hz1 SO
  unfold z16 at Z3 Z4 B3
  go_upto_region 2 with (refine wpList_store_mid rfl 159 (.tmp 5) (.tmp 8) rfl w1.heap.size 0 NA rfl rfl (by rw [BS.out]; exact Z3.out.there) SA.out OA.out ?_)
  rw [TL.out]
  generalize w1.alloc (.cells #[.int .u8 0, .int .u8 0, .int .u8 0, .int .u8 0, .int .u8 0, .int .u8 0, .int .u8 0, .int .u8 0, .int .u8 0, .int .u8 0, .int .u8 0, .int .u8 0, .int .u8 0, .int .u8 0, .int .u8 0, .int .u8 0] 159) = wb at *
  have R5 : Hid (Row8 (wb.setCells w1.heap.size 0 (bv 16 N)) w1.heap.size 159 16 N) := Z3.out.stored _
  have R4 : Hid (Row8 (wb.setCells w1.heap.size 0 (bv 16 N)) w.heap.size 159 16 (fun _ => 0)) := Z4.out.storedOther (by omega) _ _
  have B4 : Hid (Below w.heap.size w (wb.setCells w1.heap.size 0 (bv 16 N))) := below_setCells (by omega) _ _ _ B3.out
  clear Z3 Z4 B3 SA OA TL BS
  generalize wb.setCells w1.heap.size 0 (bv 16 N) = wc at *
  generalize w1.heap.size = sb at *
  go_wp2_with fail
  go_loopw [1, 6] (fun x i wr => ∃ j : Nat, j ≤ 4 ∧ i = .int .i64 (15 - (j : Int)) ∧ x = .int .u32 ((k / 256 ^ j : Nat) : Int) ∧ Row8 wr sb 159 16 (fun y => if 15 < y + j then ctrBlk N k y else N y) ∧ Row8 wr w.heap.size 159 16 (fun _ => 0) ∧ Below w.heap.size w wr) (fun _ i _ => (intOf i).toNat)
  case atStart => exact ⟨0, by omega, rfl, numEq8 (by simp), R5.out.congr (fun y hy => by rw [if_neg (by omega)]), R4.out, B4.out⟩
  case round =>
    clear R5 R4 B4
    obtain ⟨j, hj, rfl, rfl, hr, hz, hb⟩ := hrel
    have HZ : Hid (Row8 wr w.heap.size 159 16 (fun _ => 0)) := hz
    have HB : Hid (Below w.heap.size w wr) := hb
    by_cases hlt : j < 4
    · have HR : Hid (Row8 wr sb 159 16 (fun y => if 15 < y + j then ctrBlk N k y else N y)) := hr
      obtain ⟨p, hp⟩ : ∃ p, p = 15 - j := ⟨_, rfl⟩
      have hp12 : 12 ≤ p := by omega
      have hp16 : p < 16 := by omega
      have ep : (15 - (j : Int)) = (p : Int) := by omega
      have c1 := World.rowIs.cell hr (i := p) hp16
      have f1 := World.rowIs.frozen hr p
      have hq : k / 256 ^ j < 4294967296 := Nat.lt_of_le_of_lt (Nat.div_le_self _ _) hk
      have eb : ((k / 256 ^ j : Nat) : Int) % 256 = ((ctrBlk N k p : Nat) : Int) := by
        unfold ctrBlk
        rw [if_neg (by omega), show 15 - p = j from by omega]
        omega
      have es : ((k / 256 ^ j : Nat) : Int) / 256 = ((k / 256 ^ (j + 1) : Nat) : Int) := by
        rw [Nat.pow_succ, ← Nat.div_div_eq_div_mul]
        omega
      have HV : Hid (∀ v, v = ctrBlk N k p → ∀ y, y < 16 → (if y = p then v else if 15 < y + j then ctrBlk N k y else N y) = if 15 < y + (j + 1) then ctrBlk N k y else N y) := fun v hv y hy => by
        by_cases e : y = p
        · subst e
          rw [if_pos rfl, if_pos (by omega), hv]
        · rw [if_neg e]
          by_cases e2 : 15 < y + j
          · rw [if_pos e2, if_pos (by omega)]
          · rw [if_neg e2, if_neg (by omega)]
      have HE : Hid ((p : Int) - 1 = 15 - ((j + 1 : Nat) : Int)) := by show (p : Int) - 1 = _; omega
      obtain ⟨V, hV⟩ : ∃ V, V = ctrBlk N k p := ⟨_, rfl⟩
      have HVe : Hid (V = ctrBlk N k p) := hV
      rw [← hV] at eb
      rw [ep]
      generalize hk2 : k / 256 ^ (j + 1) = k2 at *
      have HK2 : Hid (k / 256 ^ (j + 1) = k2) := hk2
      generalize k / 256 ^ j = k1 at *
      have x12 : (12 : Int) ≤ (p : Int) := by omega
      have x16 : (p : Int) < 16 := by omega
      have hsbne : w.heap.size ≠ sb := by omega
      clear hV hr hz hb ep hp hk2
      go_wp2
      go_roundw
      case rel =>
        refine ⟨j + 1, by omega, numEq8 HE.out, by rw [HK2.out], ?_, ?_, ?_⟩
        · exact (HR.out.set p V).congr (HV.out V HVe.out)
        · exact HZ.out.other hsbne _
        · exact HB.out.setCell (by show w.heap.size ≤ sb; omega) _
      case measure => simp [intOf]; omega
    · have HR2 : Hid (Row8 wr sb 159 16 (ctrBlk N k)) := hr.congr (fun y hy => by
        by_cases e : 15 < y + j
        · rw [if_pos e]
        · rw [if_neg e]
          unfold ctrBlk
          rw [if_pos (by omega)])
      have ej : j = 4 := by omega
      clear hr hz hb
      subst ej
      generalize hG : ctrBlk N k = G at *
      have HG : Hid (ctrBlk N k = G) := hG
      clear hG
      go_upto_region 7 with fail
      refine wp_region_lit ?_
      refine wpList_load_mid rfl 159 (.tmp 5) rfl sb 0 rfl (bv 16 G) _ HR2.out.range Tryz.underlying159 rfl (by rw [bv_length]; exact Tryz.sizeSt) ?_
      refine wpList_store_mid rfl 159 (.tmp 4) (.tmp 19) rfl w.heap.size 0 (bA 16 G) rfl rfl (by rw [bA_size]; exact HZ.out.there) (by rw [bA_size]; exact Tryz.sizeSt) (bA_one _ _) ?_
      rw [bA_toList]
      have L : Hid ((loadVar 159 ⟨w.heap.size, 0, none⟩).run Tryz.prog (wr.setCells (w.heap.size) 0 (bv 16 G)) = .ok (.agg (bA 16 G)) (wr.setCells (w.heap.size) 0 (bv 16 G))) := (HZ.out.stored _).load Tryz.underlying159 rfl Tryz.sizeSt
      have B : Hid (Below w.heap.size w (wr.setCells (w.heap.size) 0 (bv 16 G))) := below_setCells (Nat.le_refl _) _ _ _ HB.out
      have eA : (bv 16 G).toArray = bA 16 G := rfl
      rw [eA]
      generalize wr.setCells (w.heap.size) 0 (bv 16 G) = wf at *
      generalize hA : bA 16 G = AA at *
      have HA : Hid (bA 16 G = AA) := hA
      clear hA eA
      go_wp2
      rw [HG.out, HA.out]
      exact bodyPost_ret (v := .agg AA) (results_cell_one (b := w.heap.size) (o := 0) Tryz.results122 _ _ _ rfl L.out) rfl ⟨rfl, B.out⟩
end Go.Proofs.YtbecnaabmlkjjabGreatDoor
namespace Go.Proofs.YtbecnaabmlkjjabGreatDoor
open Go.ChangeShapes Go.WideShapes Go.ChangeAt Go.RowKit
theorem CiphAt.onlyB8 {w w' : World} {C m b : Nat} {K : Nat → Nat} (h : CiphAt w C m K) (ho : OnlyB b w w') (hne : C ≠ b) : CiphAt w' C m K := fun k hk => by
  rw [World.cell?_of_block (w := w) (ho.block C h.lt hne)]; exact h k hk
end Go.Proofs.YtbecnaabmlkjjabGreatDoor
