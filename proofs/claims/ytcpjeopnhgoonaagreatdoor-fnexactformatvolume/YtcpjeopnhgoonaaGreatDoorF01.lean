/-
  Texts of the proof, joined.
-/
import Derived.Test.YtcpjeopnhgoonaaGreatDoorRows
import Derived.WalkKit
import Init
import Derived.ProofKit
import Derived.OpenShut
import Derived.ShutString
import Derived.Laws.BitsAllLaws
namespace Go.Proofs.YtcpjeopnhgoonaaGreatDoor
namespace Sha
def ad (a b:Nat):Nat:=(a + b) % 4294967296
def xr (a b:Nat):Nat:=(a ^^^ b) % 4294967296
def an (a b:Nat):Nat:=(a &&& b) % 4294967296
def orr (a b:Nat):Nat:=(a ||| b) % 4294967296
def sr (a n:Nat):Nat:=a / 2 ^ n
def sl (a n:Nat):Nat:=a * 2 ^ n % 4294967296
def rt (x n:Nat):Nat:=orr (sr x n) (sl x (32 - n))
def nt (x:Nat):Nat:=xr 4294967295 x
theorem ad_lt (a b:Nat):ad a b < 4294967296:=Nat.mod_lt _ (by omega)
theorem orr_lt (a b:Nat):orr a b < 4294967296:=Nat.mod_lt _ (by omega)
theorem orr_comm (a b:Nat):orr a b = orr b a:=by unfold orr; rw [Nat.or_comm]
theorem tb (x i:Nat):(x % 4294967296).testBit i = (decide (i < 32) && x.testBit i):=by
 have:=Nat.testBit_mod_two_pow x 32 i
 rwa [show (2:Nat) ^ 32 = 4294967296 from by decide] at this
theorem tb1 {i:Nat} (h:i < 32):(4294967295:Nat).testBit i = true:=by
 have:=Nat.testBit_two_pow_sub_one 32 i
 rw [show (2:Nat) ^ 32 - 1 = 4294967295 from by decide] at this
 rw [this]; simpa using h
theorem ch_same (e f g:Nat):orr (an e f) (an (nt e) g) = xr (an e f) (an (nt e) g):=by
 apply Nat.eq_of_testBit_eq
 intro i
 unfold orr xr an nt xr
 rw [tb,tb,Nat.testBit_or,Nat.testBit_xor,tb,tb,Nat.testBit_and,Nat.testBit_and,tb,Nat.testBit_xor]
 by_cases h:i < 32
 ·rw [tb1 h]
  cases e.testBit i <;> cases f.testBit i <;> cases g.testBit i <;> simp [h]
 ·simp [h]
theorem maj_same (a b c:Nat):orr (orr (an a b) (an a c)) (an b c) = xr (xr (an a b) (an a c)) (an b c):=by
 apply Nat.eq_of_testBit_eq
 intro i
 unfold orr xr an
 simp only [tb,Nat.testBit_or,Nat.testBit_xor,Nat.testBit_and]
 cases a.testBit i <;> cases b.testBit i <;> cases c.testBit i <;> cases decide (i < 32) <;> rfl
def kL:List Nat:=[0x428a2f98,0x71374491,0xb5c0fbcf,0xe9b5dba5,0x3956c25b,0x59f111f1,0x923f82a4,0xab1c5ed5,
 0xd807aa98,0x12835b01,0x243185be,0x550c7dc3,0x72be5d74,0x80deb1fe,0x9bdc06a7,0xc19bf174,
 0xe49b69c1,0xefbe4786,0x0fc19dc6,0x240ca1cc,0x2de92c6f,0x4a7484aa,0x5cb0a9dc,0x76f988da,
 0x983e5152,0xa831c66d,0xb00327c8,0xbf597fc7,0xc6e00bf3,0xd5a79147,0x06ca6351,0x14292967,
 0x27b70a85,0x2e1b2138,0x4d2c6dfc,0x53380d13,0x650a7354,0x766a0abb,0x81c2c92e,0x92722c85,
 0xa2bfe8a1,0xa81a664b,0xc24b8b70,0xc76c51a3,0xd192e819,0xd6990624,0xf40e3585,0x106aa070,
 0x19a4c116,0x1e376c08,0x2748774c,0x34b0bcb5,0x391c0cb3,0x4ed8aa4a,0x5b9cca4f,0x682e6ff3,
 0x748f82ee,0x78a5636f,0x84c87814,0x8cc70208,0x90befffa,0xa4506ceb,0xbef9a3f7,0xc67178f2]
def hL:List Nat:=[0x6a09e667,0xbb67ae85,0x3c6ef372,0xa54ff53a,0x510e527f,0x9b05688c,0x1f83d9ab,0x5be0cd19]
def kc (i:Nat):Nat:=kL.getD i 0
def h0 (i:Nat):Nat:=hL.getD i 0
theorem hL_lt:∀ x ∈ hL,x < 4294967296:=by decide
theorem getD_lt {l:List Nat} (h:∀ x ∈ l,x < 4294967296) (i:Nat):l.getD i 0 < 4294967296:=by
 rw [List.getD_eq_getElem?_getD]
 cases hh:l[i]? with
 | none => show 0 < 4294967296; omega
 | some v => exact h v (List.mem_of_getElem? hh)
theorem h0_lt (i:Nat):h0 i < 4294967296:=getD_lt hL_lt i
def word (b:Nat→Nat) (i:Nat):Nat:=orr (orr (orr (sl (b (4 * i)) 24) (sl (b (4 * i + 1)) 16)) (sl (b (4 * i + 2)) 8)) (b (4 * i + 3))
theorem word_lt (b:Nat→Nat) (i:Nat):word b i < 4294967296:=orr_lt _ _
def s0 (x:Nat):Nat:=xr (xr (rt x 7) (rt x 18)) (sr x 3)
def s1 (x:Nat):Nat:=xr (xr (rt x 17) (rt x 19)) (sr x 10)
def ws (b:Nat→Nat) (i:Nat):Nat :=
 if h:i < 16 then word b i else ad (ad (ad (ws b (i - 16)) (s0 (ws b (i - 15)))) (ws b (i - 7))) (s1 (ws b (i - 2)))
termination_by i
decreasing_by all_goals omega
theorem ws_in (b:Nat→Nat) {i:Nat} (h:i < 16):ws b i = word b i:=by rw [ws,dif_pos h]
theorem ws_out (b:Nat→Nat) {i:Nat} (h:¬ i < 16):ws b i = ad (ad (ad (ws b (i - 16)) (s0 (ws b (i - 15)))) (ws b (i - 7))) (s1 (ws b (i - 2))):=by rw [ws,dif_neg h]
theorem ws_lt (b:Nat→Nat) (i:Nat):ws b i < 4294967296:=by
 by_cases h:i < 16
 ·rw [ws_in b h]; exact word_lt _ _
 ·rw [ws_out b h]; exact ad_lt _ _
def big1 (e:Nat):Nat:=xr (xr (rt e 6) (rt e 11)) (rt e 25)
def big0 (a:Nat):Nat:=xr (xr (rt a 2) (rt a 13)) (rt a 22)
def t1 (v:Nat→Nat) (k w:Nat):Nat:=ad (ad (ad (ad (v 7) (big1 (v 4))) (xr (an (v 4) (v 5)) (an (nt (v 4)) (v 6)))) k) w
def t2 (v:Nat→Nat):Nat:=ad (big0 (v 0)) (xr (xr (an (v 0) (v 1)) (an (v 0) (v 2))) (an (v 1) (v 2)))
def step (v:Nat→Nat) (k w:Nat) (j:Nat):Nat :=
 if j = 0 then ad (t1 v k w) (t2 v) else if j = 4 then ad (v 3) (t1 v k w) else v (j - 1)
def rounds (W v:Nat→Nat):Nat→Nat→Nat
 | 0 => v
 | i + 1 => step (rounds W v i) (kc i) (W i)
def block (v b:Nat→Nat) (j:Nat):Nat:=ad (v j) (rounds (ws b) v 64 j)
def hashTo (c:Nat→Nat):Nat→Nat→Nat
 | 0 => h0
 | n + 1 => block (hashTo c n) (fun j => c (64 * n + j))
theorem hashTo_lt (c:Nat→Nat) (n j:Nat):hashTo c n j < 4294967296:=by
 cases n with
 | zero => exact h0_lt j
 | succ n => exact ad_lt _ _
def fullN (n:Nat):Nat:=(n + 72) / 64 * 64
def fullF (n:Nat) (f:Nat→Nat) (j:Nat):Nat :=
 if j < n then f j else if j = n then 128 else if j < fullN n - 8 then 0 else 8 * n / 2 ^ (8 * (fullN n - 1 - j)) % 256
theorem fullF_lt {n:Nat} {f:Nat→Nat} (h:∀ j,f j < 256) (j:Nat):fullF n f j < 256:=by
 unfold fullF
 split
 ·exact h j
 ·split
  ·omega
  ·split
   ·omega
   ·exact Nat.mod_lt _ (by omega)
def outB (v:Nat→Nat) (j:Nat):Nat:=v (j / 4) / 2 ^ (24 - 8 * (j % 4)) % 256
theorem outB_lt (v:Nat→Nat) (j:Nat):outB v j < 256:=Nat.mod_lt _ (by omega)
def hash (n:Nat) (f:Nat→Nat):Nat→Nat:=outB (hashTo (fullF n f) (fullN n / 64))
theorem hash_lt (n:Nat) (f:Nat→Nat) (j:Nat):hash n f j < 256:=outB_lt _ _
def cat (n:Nat) (f g:Nat→Nat) (j:Nat):Nat:=if j < n then f j else g (j - n)
theorem cat_lt {n:Nat} {f g:Nat→Nat} (hf:∀ j,f j < 256) (hg:∀ j,g j < 256) (j:Nat):cat n f g j < 256:=by
 unfold cat
 split
 ·exact hf j
 ·exact hg _
def keyF (n:Nat) (f:Nat→Nat) (j:Nat):Nat:=if 64 < n then (if j < 32 then hash n f j else 0) else (if j < n then f j else 0)
theorem keyF_lt {n:Nat} {f:Nat→Nat} (h:∀ j,f j < 256) (j:Nat):keyF n f j < 256:=by
 unfold keyF
 split
 ·split
  ·exact hash_lt _ _ _
  ·omega
 ·split
  ·exact h j
  ·omega
def maskF (k:Nat→Nat) (m:Nat) (j:Nat):Nat:=k j ^^^ m
theorem maskF_lt {k:Nat→Nat} {m:Nat} (h:∀ j,k j < 256) (hm:m < 256) (j:Nat):maskF k m j < 256:=Nat.xor_lt_two_pow (n:=8) (h j) hm
def mac (k:Nat→Nat) (n:Nat) (f:Nat→Nat):Nat→Nat:=hash 96 (cat 64 (maskF k 0x5c) (hash (64 + n) (cat 64 (maskF k 0x36) f)))
theorem mac_lt (k:Nat→Nat) (n:Nat) (f:Nat→Nat) (j:Nat):mac k n f j < 256:=hash_lt _ _ _
def drawnB (k:Nat→Nat) (m:Nat) (g:Nat→Nat):Nat→Nat→Nat
 | 0 => fun _ => 0
 | i + 1 => mac k ((if i = 0 then 0 else 32) + m + 1) (cat (if i = 0 then 0 else 32) (drawnB k m g i) (cat m g (fun _ => (i + 1) % 256)))
def drawnF (k:Nat→Nat) (m:Nat) (g:Nat→Nat) (j:Nat):Nat:=drawnB k m g (j / 32 + 1) (j % 32)
theorem drawnF_lt (k:Nat→Nat) (m:Nat) (g:Nat→Nat) (j:Nat):drawnF k m g j < 256:=mac_lt _ _ _ _
end Sha
end Go.Proofs.YtcpjeopnhgoonaaGreatDoor
namespace Go.Proofs.YtcpjeopnhgoonaaGreatDoor.Gf
def dbl (a:Nat):Nat:=if 255 < a * 2 then (a * 2) ^^^ 283 else a * 2
def dblB (a:Nat):Nat:=(a * 2 % 256) ^^^ (a / 128 * 27)
theorem dblB_eq_fin:∀ a,a < 256→dblB a = dbl a:=by decide +kernel
theorem dbl_lt:∀ a,a < 256→dbl a < 256:=by decide +kernel
def mulTo:Nat→Nat→Nat→Nat × Nat
 | 0,a,_ => (a,0)
 | k + 1,a,b => (dbl (mulTo k a b).1,if b / 2 ^ k % 2 = 1 then (mulTo k a b).2 ^^^ (mulTo k a b).1 else (mulTo k a b).2)
def mul (a b:Nat):Nat:=(mulTo 8 a b).2
theorem xor_lt {a b:Nat} (ha:a < 256) (hb:b < 256):a ^^^ b < 256:=Nat.xor_lt_two_pow (n:=8) ha hb
theorem mulTo_lt (k a b:Nat) (ha:a < 256):(mulTo k a b).1 < 256∧(mulTo k a b).2 < 256:=by
 induction k with
 | zero => exact ⟨ha,by simp [mulTo]⟩
 | succ k ih =>
  refine ⟨dbl_lt _ ih.1,?_⟩
  show (if b / 2 ^ k % 2 = 1 then (mulTo k a b).2 ^^^ (mulTo k a b).1 else (mulTo k a b).2) < 256
  split
  ·exact xor_lt ih.2 ih.1
  ·exact ih.2
theorem mul_lt (a b:Nat) (ha:a < 256):mul a b < 256:=(mulTo_lt 8 a b ha).2
theorem mulTo_fst (k a b:Nat):(mulTo (k + 1) a b).1 = dbl (mulTo k a b).1:=by rw [mulTo]
theorem mulTo_yes (k a b:Nat) (h:b / 2 ^ k % 2 = 1):(mulTo (k + 1) a b).2 = (mulTo k a b).2 ^^^ (mulTo k a b).1:=by rw [mulTo]; simp [h]
theorem mulTo_no (k a b:Nat) (h:b / 2 ^ k % 2 = 0):(mulTo (k + 1) a b).2 = (mulTo k a b).2:=by rw [mulTo]; simp [h]
def invTo:Nat→Nat→Nat × Nat
 | 0,a => (a,1)
 | k + 1,a => (mul (invTo k a).1 (invTo k a).1,mul (invTo k a).2 (mul (invTo k a).1 (invTo k a).1))
def inv (a:Nat):Nat:=(invTo 7 a).2
theorem invTo_fst (k a:Nat):(invTo (k + 1) a).1 = mul (invTo k a).1 (invTo k a).1:=by rw [invTo]
theorem invTo_snd (k a:Nat):(invTo (k + 1) a).2 = mul (invTo k a).2 (mul (invTo k a).1 (invTo k a).1):=by rw [invTo]
theorem invTo_lt (k a:Nat) (ha:a < 256):(invTo k a).1 < 256∧(invTo k a).2 < 256:=by
 induction k with
 | zero => exact ⟨ha,by simp [invTo]⟩
 | succ k ih => rw [invTo_fst,invTo_snd]; exact ⟨mul_lt _ _ ih.1,mul_lt _ _ ih.2⟩
theorem inv_lt (a:Nat) (ha:a < 256):inv a < 256:=(invTo_lt 7 a ha).2
end Go.Proofs.YtcpjeopnhgoonaaGreatDoor.Gf
namespace Go.Proofs.YtcpjeopnhgoonaaGreatDoor
open Go.ChangeShapes Go.WideShapes Go.ChangeAt Go.RowKit
set_option linter.unusedVariables false
theorem i64_xor_nat (a b:Nat) (ha:a < 65536) (hb:b < 65536):bits .xor .i64 (a:Int) (b:Int) = ((a ^^^ b:Nat):Int):=by
 have hx:a ^^^ b < 2 ^ 16:=Nat.xor_lt_two_pow (by omega) (by omega)
 show IntKind.i64.wrap ((BitVec.ofInt 64 (a:Int) ^^^ BitVec.ofInt 64 (b:Int)).toNat:Int) = _
 rw [BitVec.toNat_xor,BitVec.ofInt_natCast,BitVec.toNat_ofNat,BitVec.ofInt_natCast,BitVec.toNat_ofNat,Nat.mod_eq_of_lt (by omega),Nat.mod_eq_of_lt (by omega)]
 simp [IntKind.wrap,IntKind.bits,IntKind.signed]
 omega
theorem i64_and1_nat (a:Nat) (ha:a < 65536):bits .and .i64 (a:Int) 1 = ((a % 2:Nat):Int):=by
 have hx:a &&& 1 = a % 2:=Nat.and_one_is_mod a
 show IntKind.i64.wrap ((BitVec.ofInt 64 (a:Int) &&& BitVec.ofInt 64 ((1:Nat):Int)).toNat:Int) = _
 rw [BitVec.toNat_and,BitVec.ofInt_natCast,BitVec.toNat_ofNat,BitVec.ofInt_natCast,BitVec.toNat_ofNat,Nat.mod_eq_of_lt (by omega),Nat.mod_eq_of_lt (by omega),hx]
 simp [IntKind.wrap,IntKind.bits,IntKind.signed]
 omega
theorem ret_int {k:IntKind} {a b:Int} (h:a = b):Ending.returned (.int k a) = .returned (.int k b):=by rw [h]
theorem val_int {k:IntKind} {a b:Int} (h:a = b):Value.int k a = .int k b:=by rw [h]
theorem cast_div (b k:Nat):(b:Int) / 2 ^ k = ((b / 2 ^ k:Nat):Int):=by simp
theorem and_yes {b k:Nat} (hb:b < 256) (h:(bits BinOp.and IntKind.i64 ((b:Int) / 2 ^ k) 1 == 1) = true):b / 2 ^ k % 2 = 1:=by
 have hl:b / 2 ^ k < 65536:=Nat.lt_of_le_of_lt (Nat.div_le_self _ _) (by omega)
 rw [cast_div,i64_and1_nat _ hl] at h
 generalize b / 2 ^ k = B at *
 rcases Nat.mod_two_eq_zero_or_one B with e | e <;> rw [e] at h ⊢ <;> simp at h
theorem and_no {b k:Nat} (hb:b < 256) (h:(bits BinOp.and IntKind.i64 ((b:Int) / 2 ^ k) 1 == 1) = false):b / 2 ^ k % 2 = 0:=by
 have hl:b / 2 ^ k < 65536:=Nat.lt_of_le_of_lt (Nat.div_le_self _ _) (by omega)
 rw [cast_div,i64_and1_nat _ hl] at h
 generalize b / 2 ^ k = B at *
 rcases Nat.mod_two_eq_zero_or_one B with e | e <;> rw [e] at h ⊢ <;> simp at h
theorem dbl_yes (A:Nat) (hA:A < 256) (h:(255:Int) < A * 2):bits BinOp.xor IntKind.i64 ((A:Int) * 2) 283 = ((Gf.dbl A:Nat):Int):=by
 have:=i64_xor_nat (A * 2) 283 (by omega) (by omega)
 unfold Gf.dbl
 rw [if_pos (by omega)]
 exact this
theorem dbl_no (A:Nat) (h:(A:Int) * 2≤255):(A:Int) * 2 = ((Gf.dbl A:Nat):Int):=by
 unfold Gf.dbl
 rw [if_neg (by omega)]
 rfl
theorem mul_any (a b:Nat) (h1:a < 256) (h3:b < 256) (w:World) :
  Calls Tryz.prog 161 #[.int .i64 a,.int .i64 b] w fun e w' => e = .returned (.int .i64 (Gf.mul a b:Nat))∧w' = w:=by
 go_enter Tryz.func161,Tryz.ntmps161
 go_wp2
 go_loop [0,5,6] (fun x o i => ∃ k:Nat,k≤8∧i = .int .i64 k∧x = .int .i64 ((Gf.mulTo k a b).1:Nat)∧o = .int .i64 ((Gf.mulTo k a b).2:Nat)) (fun _ _ i => 8 - (intOf i).toNat)
 case atStart => exact ⟨0,by omega,rfl,rfl,rfl⟩
 case round =>
  obtain ⟨k,hk,rfl,rfl,rfl⟩:=hrel
  have hl:=Gf.mulTo_lt k a b h1
  have e1:=Gf.mulTo_fst k a b
  have e2:=Gf.mulTo_yes k a b
  have e3:=Gf.mulTo_no k a b
  have E1:Hid ((Gf.mulTo (k + 1) a b).1 = Gf.dbl (Gf.mulTo k a b).1):=e1
  have E2:Hid (b / 2 ^ k % 2 = 1→(Gf.mulTo (k + 1) a b).2 = (Gf.mulTo k a b).2 ^^^ (Gf.mulTo k a b).1):=e2
  have E3:Hid (b / 2 ^ k % 2 = 0→(Gf.mulTo (k + 1) a b).2 = (Gf.mulTo k a b).2):=e3
  have E4:Hid (k = 8→(Gf.mulTo k a b).2 = Gf.mul a b):=by intro h; subst h; rfl
  clear e1 e2 e3
  generalize (Gf.mulTo k a b).1 = A at *
  generalize (Gf.mulTo k a b).2 = O at *
  obtain ⟨hA,hO⟩:=hl
  by_cases hlt:k < 8
  ·go_wp2
   all_goals
    go_round
    case rel =>
     refine ⟨k + 1,by omega,by go_num,val_int ?_,val_int ?_⟩
     ·rw [E1.out]; first | exact dbl_yes A hA (by assumption) | exact dbl_no A (by assumption)
     ·first | (rw [E2.out (and_yes h3 (by assumption))]; exact i64_xor_nat O A (by omega) (by omega)) | (rw [E3.out (and_no h3 (by assumption))])
    case measure => simp [intOf]; omega
  ·go_wp2
   go_ret
   exact ⟨ret_int (by rw [E4.out (by omega)]),rfl⟩
theorem double_any (a:Nat) (h1:a < 256) (w:World) :
  Calls Tryz.prog 231 #[.int .u8 a] w fun e w' => e = .returned (.int .u8 (Gf.dbl a:Nat))∧w' = w:=by
 have E:Hid (bits BinOp.xor IntKind.u8 ((a:Int) * 2 % 256) ((a:Int) / 128 * 27) = ((Gf.dbl a:Nat):Int)):=by
  have:=u8_xor_nat (a * 2 % 256) (a / 128 * 27) (by omega) (by omega)
  rw [← Gf.dblB_eq_fin a h1]
  exact this
 go_enter Tryz.func231,Tryz.ntmps231
 go_wp2
 go_ret
 exact ⟨ret_int E.out,rfl⟩
end Go.Proofs.YtcpjeopnhgoonaaGreatDoor
namespace Go.Proofs.YtcpjeopnhgoonaaGreatDoor
open Go.ChangeShapes Go.WideShapes Go.ChangeAt Go.RowKit
namespace Gf
def rotl (a n:Nat):Nat:=(a * 2 ^ n % 256) ||| (a / 2 ^ (8 - n))
def spTo:Nat→Nat→Nat
 | 0,a => a ^^^ 99
 | k + 1,a => spTo k a ^^^ rotl a (k + 1)
def spread (a:Nat):Nat:=spTo 4 a
def gather (a:Nat):Nat:=((rotl a 1 ^^^ rotl a 3) ^^^ rotl a 6) ^^^ 5
def rot1 (x:Nat):Nat:=x * 2 % 256 + x / 128
def affTo:Nat→Nat→Nat × Nat
 | 0,a => (a,a ^^^ 99)
 | k + 1,a => (rot1 (affTo k a).1,(affTo k a).2 ^^^ rot1 (affTo k a).1)
theorem aff_eq:∀ a,a < 256→(affTo 4 a).2 = spread a:=by decide +kernel
theorem rot1_lt (x:Nat) (h:x < 256):rot1 x < 256:=by unfold rot1; omega
theorem or_lt {a b:Nat} (ha:a < 256) (hb:b < 256):a ||| b < 256:=Nat.or_lt_two_pow (n:=8) ha hb
theorem rotl_lt (x n:Nat) (h:x < 256):rotl x n < 256:=or_lt (by omega) (Nat.lt_of_le_of_lt (Nat.div_le_self _ _) h)
theorem affTo_lt (k a:Nat) (h:a < 256):(affTo k a).1 < 256∧(affTo k a).2 < 256:=by
 induction k with
 | zero => exact ⟨h,xor_lt h (by omega)⟩
 | succ k ih => exact ⟨rot1_lt _ ih.1,xor_lt ih.2 (rot1_lt _ ih.1)⟩
theorem spTo_lt (k a:Nat) (h:a < 256):spTo k a < 256:=by
 induction k with
 | zero => exact xor_lt h (by omega)
 | succ k ih => exact xor_lt ih (rotl_lt _ _ h)
theorem spread_lt (a:Nat) (h:a < 256):spread a < 256:=spTo_lt 4 a h
theorem gather_lt (a:Nat) (h:a < 256):gather a < 256:=xor_lt (xor_lt (xor_lt (rotl_lt _ _ h) (rotl_lt _ _ h)) (rotl_lt _ _ h)) (by omega)
def sub (a:Nat):Nat:=spread (inv a)
def unsub (a:Nat):Nat:=inv (gather a)
theorem sub_lt (a:Nat) (h:a < 256):sub a < 256:=spread_lt _ (inv_lt a h)
theorem unsub_lt (a:Nat) (h:a < 256):unsub a < 256:=inv_lt _ (gather_lt a h)
end Gf
theorem rot_end (a m d:Nat) (ha:a < 256):bits BinOp.or IntKind.u8 ((a:Int) * m % 256) ((a:Int) / d) = ((a * m % 256 ||| a / d:Nat):Int):=by
 have:=u8_or_nat (a * m % 256) (a / d) (by omega) (Nat.lt_of_le_of_lt (Nat.div_le_self _ _) ha)
 rw [← this]
 congr 1
theorem rot_any (a n:Nat) (ha:a < 256) (h:n = 1∨n = 2∨n = 3∨n = 4∨n = 6) (w:World) :
  Calls Tryz.prog 239 #[.int .u8 a,.int .i64 n] w fun e w' => e = .returned (.int .u8 (Gf.rotl a n:Nat))∧w' = w:=by
 have e1:bits BinOp.and IntKind.u64 1 7 = 1:=by decide
 have e2:bits BinOp.and IntKind.u64 2 7 = 2:=by decide
 have e3:bits BinOp.and IntKind.u64 3 7 = 3:=by decide
 have e4:bits BinOp.and IntKind.u64 4 7 = 4:=by decide
 have e6:bits BinOp.and IntKind.u64 6 7 = 6:=by decide
 rcases h with rfl | rfl | rfl | rfl | rfl
 ·go_enter Tryz.func239,Tryz.ntmps239
  go_wp2
  go_ret
  exact ⟨ret_int (rot_end a 2 128 ha),rfl⟩
 ·go_enter Tryz.func239,Tryz.ntmps239
  go_wp2
  go_ret
  exact ⟨ret_int (rot_end a 4 64 ha),rfl⟩
 ·go_enter Tryz.func239,Tryz.ntmps239
  go_wp2
  go_ret
  exact ⟨ret_int (rot_end a 8 32 ha),rfl⟩
 ·go_enter Tryz.func239,Tryz.ntmps239
  go_wp2
  go_ret
  exact ⟨ret_int (rot_end a 16 16 ha),rfl⟩
 ·go_enter Tryz.func239,Tryz.ntmps239
  go_wp2
  go_ret
  exact ⟨ret_int (rot_end a 64 4 ha),rfl⟩
theorem spreadBits_any (a:Nat) (ha:a < 256) (w:World) :
  Calls Tryz.prog 232 #[.int .u8 a] w fun e w' => e = .returned (.int .u8 (Gf.spread a:Nat))∧w' = w:=by
 have E0:Hid (bits BinOp.xor IntKind.u8 (a:Int) 99 = ((Gf.spTo 0 a:Nat):Int)):=u8_xor_nat a 99 ha (by omega)
 go_enter Tryz.func232,Tryz.ntmps232
 go_wp2
 go_loop [3,4] (fun o i => ∃ k:Nat,k≤4∧i = .int .i64 (k + 1:Nat)∧o = .int .u8 (Gf.spTo k a:Nat)) (fun _ i => 5 - (intOf i).toNat)
 case atStart => exact ⟨0,by omega,rfl,val_int E0.out⟩
 case round =>
  obtain ⟨k,hk,rfl,rfl⟩:=hrel
  have hl:=Gf.spTo_lt k a ha
  have hr:=Gf.rotl_lt a (k + 1) ha
  have E1:Hid (Gf.spTo (k + 1) a = Gf.spTo k a ^^^ Gf.rotl a (k + 1)):=rfl
  have E2:Hid (k = 4→Gf.spTo k a = Gf.spread a):=by intro h; subst h; rfl
  generalize Gf.spTo k a = O at *
  by_cases hlt:k < 4
  ·have hn:Hid (k + 1 = 1∨k + 1 = 2∨k + 1 = 3∨k + 1 = 4∨k + 1 = 6):=by show _∨_; omega
   go_wp2_with fail
   refine (rot_any a (k + 1) ha hn.out _).mono ?_; rintro e w' ⟨rfl,rfl⟩
   generalize Gf.rotl a (k + 1) = R at *
   go_wp2_with fail
   go_round
   case rel => exact ⟨k + 1,by omega,by go_num,val_int (by rw [E1.out]; exact u8_xor_nat O R hl hr)⟩
   case measure => simp [intOf]; omega
  ·go_wp2
   go_ret
   exact ⟨ret_int (by rw [E2.out (by omega)]),rfl⟩
theorem affine_any (a:Nat) (ha:a < 256) (w:World) :
  Calls Tryz.prog 160 #[.int .i64 a] w fun e w' => e = .returned (.int .i64 (Gf.spread a:Nat))∧w' = w:=by
 have E0:Hid (bits BinOp.xor IntKind.i64 (a:Int) 99 = (((Gf.affTo 0 a).2:Nat):Int)):=i64_xor_nat a 99 (by omega) (by omega)
 go_enter Tryz.func160,Tryz.ntmps160
 go_wp2
 go_loop [0,3,4] (fun x o i => ∃ k:Nat,k≤4∧i = .int .i64 k∧x = .int .i64 ((Gf.affTo k a).1:Nat)∧o = .int .i64 ((Gf.affTo k a).2:Nat)) (fun _ _ i => 4 - (intOf i).toNat)
 case atStart => exact ⟨0,by omega,rfl,rfl,val_int E0.out⟩
 case round =>
  obtain ⟨k,hk,rfl,rfl,rfl⟩:=hrel
  have hl:=Gf.affTo_lt k a ha
  have E1:Hid ((Gf.affTo (k + 1) a).1 = Gf.rot1 (Gf.affTo k a).1):=rfl
  have E3:Hid ((Gf.affTo (k + 1) a).2 = (Gf.affTo k a).2 ^^^ Gf.rot1 (Gf.affTo k a).1):=rfl
  have E2:Hid (k = 4→(Gf.affTo k a).2 = Gf.spread a):=by intro h; subst h; exact Gf.aff_eq a ha
  generalize (Gf.affTo k a).1 = A at *
  generalize (Gf.affTo k a).2 = O at *
  obtain ⟨hA,hO⟩:=hl
  by_cases hlt:k < 4
  ·have hR:A * 2 % 256 + A / 128 < 256:=by omega
   go_wp2
   go_round
   case rel => exact ⟨k + 1,by omega,by go_num,val_int (by rw [E1.out]; rfl),val_int (by rw [E3.out]; exact i64_xor_nat O (A * 2 % 256 + A / 128) (by omega) (by omega))⟩
   case measure => simp [intOf]; omega
  ·go_wp2
   go_ret
   exact ⟨ret_int (by rw [E2.out (by omega)]),rfl⟩
end Go.Proofs.YtcpjeopnhgoonaaGreatDoor
namespace Go.Proofs.YtcpjeopnhgoonaaGreatDoor.Gf
def pw:Nat→Nat
 | 0 => 1
 | k + 1 => pw k ^^^ dbl (pw k)
theorem pw_lt (k:Nat):pw k < 256:=by
 induction k with
 | zero => decide
 | succ k ih => exact xor_lt ih (dbl_lt _ ih)
def lgL:List Nat:=[0,0,25,1,50,2,26,198,75,199,27,104,51,238,223,3,100,4,224,14,52,141,129,239,76,113,8,200,248,105,28,193,125,194,29,181,249,185,39,106,77,228,166,114,154,201,9,120,101,47,138,5,33,15,225,36,18,240,130,69,53,147,218,142,150,143,219,189,54,208,206,148,19,92,210,241,64,70,131,56,102,221,253,48,191,6,139,98,179,37,226,152,34,136,145,16,126,110,72,195,163,182,30,66,58,107,40,84,250,133,61,186,43,121,10,21,155,159,94,202,78,212,172,229,243,115,167,87,175,88,168,80,244,234,214,116,79,174,233,213,231,230,173,232,44,215,117,122,235,22,11,245,89,203,95,176,156,169,81,160,127,12,246,111,23,196,73,236,216,67,31,45,164,118,123,183,204,187,62,90,251,96,177,134,59,82,161,108,170,85,41,157,151,178,135,144,97,190,220,252,188,149,207,205,55,63,91,209,83,57,132,60,65,162,109,71,20,42,158,93,86,242,211,171,68,17,146,217,35,32,46,137,180,124,184,38,119,153,227,165,103,74,237,222,197,49,254,24,13,99,140,128,192,247,112,7]
theorem lg_all:∀ j,j < 256→j = 0∨(lgL.getD j 0 < 255∧pw (lgL.getD j 0) = j):=by decide +kernel
theorem pw_sub:∀ k,k < 255→pw k≠0∧spread (pw ((255 - k) % 255)) = sub (pw k):=by decide +kernel
def tabTo:Nat→Nat→Nat
 | 0,j => if j = 0 then 99 else 0
 | k + 1,j => if j = pw k then spread (pw ((255 - k) % 255)) else tabTo k j
theorem tabTo_hit (k i:Nat) (hi:i < k) (hk:k≤255):tabTo k (pw i) = sub (pw i):=by
 induction k with
 | zero => omega
 | succ k ih =>
  show (if pw i = pw k then spread (pw ((255 - k) % 255)) else tabTo k (pw i)) = _
  split
  ·rename_i h; rw [h]; exact (pw_sub k (by omega)).2
  ·rename_i h
   refine ih ?_ (by omega)
   rcases Nat.lt_or_ge i k with g | g
   ·exact g
   ·exact absurd (by rw [show i = k from by omega]) h
theorem tabTo_zero (k:Nat) (hk:k≤255):tabTo k 0 = 99:=by
 induction k with
 | zero => rfl
 | succ k ih =>
  show (if 0 = pw k then spread (pw ((255 - k) % 255)) else tabTo k 0) = _
  rw [if_neg (fun h => (pw_sub k (by omega)).1 h.symm)]
  exact ih (by omega)
theorem sub_zero:sub 0 = 99:=by decide +kernel
theorem tab_last (j:Nat) (hj:j < 256):tabTo 255 j = sub j:=by
 rcases lg_all j hj with h | ⟨h,e⟩
 ·rw [h,tabTo_zero 255 (by omega),sub_zero]
 ·have:=tabTo_hit 255 _ h (by omega)
  rw [e] at this
  exact this
theorem unsub_sub:∀ a,a < 256→unsub (sub a) = a:=by decide +kernel
theorem sub_unsub:∀ a,a < 256→sub (unsub a) = a:=by decide +kernel
def backTo:Nat→Nat→Nat
 | 0,_ => 0
 | k + 1,j => if j = sub k then k else backTo k j
theorem backTo_hit (k i:Nat) (hi:i < k) (hk:k≤256):backTo k (sub i) = i:=by
 induction k with
 | zero => omega
 | succ k ih =>
  show (if sub i = sub k then k else backTo k (sub i)) = _
  split
  ·rename_i h
   have:=unsub_sub i (by omega)
   rw [h,unsub_sub k (by omega)] at this
   exact this
  ·rename_i h
   refine ih ?_ (by omega)
   rcases Nat.lt_or_ge i k with g | g
   ·exact g
   ·exact absurd (by rw [show i = k from by omega]) h
theorem back_last (j:Nat) (hj:j < 256):backTo 256 j = unsub j:=by
 have:=backTo_hit 256 (unsub j) (unsub_lt j hj) (by omega)
 rw [sub_unsub j hj] at this
 exact this
end Go.Proofs.YtcpjeopnhgoonaaGreatDoor.Gf
