/-
  Texts of the proof, joined.
-/
import Derived.Test.YtcpjeopnhgoonaaGreatDoorF39
import Derived.Test.YtcpjeopnhgoonaaGreatDoorF21
import Derived.Test.YtcpjeopnhgoonaaGreatDoorF20
import Derived.Test.YtcpjeopnhgoonaaGreatDoorF41
import Derived.Test.YtcpjeopnhgoonaaGreatDoorF40
import Derived.Test.YtcpjeopnhgoonaaGreatDoorF36
namespace Go.Proofs.YtcpjeopnhgoonaaGreatDoor
open Go.ChangeShapes Go.WideShapes Go.ChangeAt Go.RowKit
set_option linter.unusedVariables false
def pieceX (i:Nat):Nat:=if i = 0 then 112 else if i = 1 then 105 else if i = 2 then 101 else if i = 3 then 99 else 101
theorem pieceX_lt (i:Nat):pieceX i < 256:=by unfold pieceX; split; omega; split; omega; split; omega; split; omega; omega
def pcNon (p v:Nat):ByteArray:=kstr (nonceF (16 + p) v) 0 12
theorem piece_code (w:World):Code8 (w.alloc (.cells #[.int .u8 112,.int .u8 105,.int .u8 101,.int .u8 99,.int .u8 101] 5 (5,6))) (some ⟨w.heap.size,0,none⟩) 5 pieceX:=code8_of (fun i hi => by
 rw [Nat.zero_add,World.cell?_alloc_mark]
 rcases (show i = 0∨i = 1∨i = 2∨i = 3∨i = 4 by omega) with rfl | rfl | rfl | rfl | rfl <;> (simp [pieceX]))
def PfP (k:ByteArray) (p v:Int) (t:ByteArray) (c:Int):Prop :=
 (c = 2∧(65536 < k.size∨65536 < t.size))∨(c = 1∧¬ 65536 < k.size∧¬ 65536 < t.size∧k.size≠32)∨(c = 4∧¬ 65536 < t.size∧k.size = 32∧¬ ((0≤p∧p < 16)∧(1≤v∧v≤65535)))∨(c = 0∧¬ 65536 < t.size∧k.size = 32∧(0≤p∧p < 16)∧(1≤v∧v≤65535))
theorem withinP (x n:Int) (r:Bool) (hr:r = decide (0≤x∧x < n)) (w:World) :
  Calls Tryz.prog 142 #[.int .i64 x,.int .i64 n] w fun e w' => e = .returned (.bool r)∧w = w':=by
 by_cases h1:0≤x
 ·by_cases h2:x < n
  ·obtain rfl:r = true:=by rw [hr]; simp; omega
   clear hr
   go_enter Tryz.func142,Tryz.ntmps142
   go_wp2
   go_ret
   exact ⟨rfl,rfl⟩
  ·obtain rfl:r = false:=by rw [hr]; simp; omega
   clear hr
   go_enter Tryz.func142,Tryz.ntmps142
   go_wp2
   go_ret
   exact ⟨rfl,rfl⟩
 ·obtain rfl:r = false:=by rw [hr]; simp; omega
  clear hr
  go_enter Tryz.func142,Tryz.ntmps142
  go_wp2
  go_ret
  exact ⟨rfl,rfl⟩
theorem versionP (x:Int) (r:Bool) (hr:r = decide (1≤x∧x≤65535)) (w:World) :
  Calls Tryz.prog 143 #[.int .i64 x] w fun e w' => e = .returned (.bool r)∧w = w':=by
 by_cases h1:1≤x
 ·by_cases h2:x≤65535
  ·obtain rfl:r = true:=by rw [hr]; simp; omega
   clear hr
   go_enter Tryz.func143,Tryz.ntmps143
   go_wp2
   go_ret
   exact ⟨rfl,rfl⟩
  ·obtain rfl:r = false:=by rw [hr]; simp; omega
   clear hr
   go_enter Tryz.func143,Tryz.ntmps143
   go_wp2
   go_ret
   exact ⟨rfl,rfl⟩
 ·obtain rfl:r = false:=by rw [hr]; simp; omega
  clear hr
  go_enter Tryz.func143,Tryz.ntmps143
  go_wp2
  go_ret
  exact ⟨rfl,rfl⟩
theorem isPieceP (s:ByteArray) (r:Bool) (hr:r = decide (1≤s.size∧s.size≤64)) (w:World) :
  Calls Tryz.prog 99 #[.string s] w fun e w' => e = .returned (.bool r)∧w = w':=by
 by_cases h1:1≤s.size
 ·by_cases h2:s.size≤64
  ·obtain rfl:r = true:=by rw [hr]; simp; omega
   have e1:(1:Int)≤(s.size:Int):=by omega
   have e2:(s.size:Int)≤64:=by omega
   clear hr
   go_enter Tryz.func99,Tryz.ntmps99
   go_wp2
   go_ret
   exact ⟨rfl,rfl⟩
  ·obtain rfl:r = false:=by rw [hr]; simp; omega
   have e1:(1:Int)≤(s.size:Int):=by omega
   have e2:¬ (s.size:Int)≤64:=by omega
   clear hr
   go_enter Tryz.func99,Tryz.ntmps99
   go_wp2
   go_ret
   exact ⟨rfl,rfl⟩
 ·obtain rfl:r = false:=by rw [hr]; simp; omega
  have e1:¬ (1:Int)≤(s.size:Int):=by omega
  clear hr
  go_enter Tryz.func99,Tryz.ntmps99
  go_wp2
  go_ret
  exact ⟨rfl,rfl⟩
set_option maxRecDepth 100000 in
theorem pieceFault_any (k:ByteArray) (p v:Int) (t:ByteArray) (c:Int) (h:PfP k p v t c) (w:World) :
  Calls Tryz.prog 98 #[.string k,.int .i64 p,.int .i64 v,.string t] w fun e w' => e = .returned (.int .i64 c)∧w = w':=by
 rcases h with ⟨rfl,h⟩ | ⟨rfl,h1,h2,h3⟩ | ⟨rfl,h2,h3,h4⟩ | ⟨rfl,h2,h3,h4,h5⟩
 ·by_cases hk:65536 < k.size
  ·have k0:(65536:Int) < (k.size:Int):=by omega
   clear h
   go_enter Tryz.func98,Tryz.ntmps98
   go_wp2
   go_ret
   exact ⟨rfl,rfl⟩
  ·have k0:¬ (65536:Int) < (k.size:Int):=by omega
   have t0:(65536:Int) < (t.size:Int):=by rcases h with h | h <;> omega
   clear h
   go_enter Tryz.func98,Tryz.ntmps98
   go_wp2
   go_ret
   exact ⟨rfl,rfl⟩
 ·have k0:¬ (65536:Int) < (k.size:Int):=by omega
  have t0:¬ (65536:Int) < (t.size:Int):=by omega
  have k1:((k.size:Int) != 32) = true:=by simp; omega
  clear h1 h2 h3
  go_enter Tryz.func98,Tryz.ntmps98
  go_wp2
  go_ret
  exact ⟨rfl,rfl⟩
 ·have k0:¬ (65536:Int) < (k.size:Int):=by omega
  have t0:¬ (65536:Int) < (t.size:Int):=by omega
  have k1:((k.size:Int) != 32) = false:=by simp; omega
  by_cases hp:0≤p∧p < 16
  ·have W1:Hid (∀ w:World,Calls Tryz.prog 142 #[.int .i64 p,.int .i64 16] w fun e w' => e = .returned (.bool true)∧w = w'):=fun w => withinP p 16 true (by simp [hp]) w
   have W2:Hid (∀ w:World,Calls Tryz.prog 143 #[.int .i64 v] w fun e w' => e = .returned (.bool false)∧w = w'):=fun w => versionP v false (by simp; omega) w
   clear h2 h3 h4 hp
   go_enter Tryz.func98,Tryz.ntmps98
   go_wp2_with fail
   refine (W1.out _).mono ?_
   rintro e _ ⟨rfl,rfl⟩
   go_wp2_with fail
   refine (W2.out _).mono ?_
   rintro e _ ⟨rfl,rfl⟩
   go_wp2
   go_ret
   exact ⟨rfl,rfl⟩
  ·have W1:Hid (∀ w:World,Calls Tryz.prog 142 #[.int .i64 p,.int .i64 16] w fun e w' => e = .returned (.bool false)∧w = w'):=fun w => withinP p 16 false (by simp; omega) w
   clear h2 h3 h4 hp
   go_enter Tryz.func98,Tryz.ntmps98
   go_wp2_with fail
   refine (W1.out _).mono ?_
   rintro e _ ⟨rfl,rfl⟩
   go_wp2
   go_ret
   exact ⟨rfl,rfl⟩
 ·have k0:¬ (65536:Int) < (k.size:Int):=by omega
  have t0:¬ (65536:Int) < (t.size:Int):=by omega
  have k1:((k.size:Int) != 32) = false:=by simp; omega
  have W1:Hid (∀ w:World,Calls Tryz.prog 142 #[.int .i64 p,.int .i64 16] w fun e w' => e = .returned (.bool true)∧w = w'):=fun w => withinP p 16 true (by simp [h4]) w
  have W2:Hid (∀ w:World,Calls Tryz.prog 143 #[.int .i64 v] w fun e w' => e = .returned (.bool true)∧w = w'):=fun w => versionP v true (by simp [h5]) w
  clear h2 h3 h4 h5
  go_enter Tryz.func98,Tryz.ntmps98
  go_wp2_with fail
  refine (W1.out _).mono ?_
  rintro e _ ⟨rfl,rfl⟩
  go_wp2_with fail
  refine (W2.out _).mono ?_
  rintro e _ ⟨rfl,rfl⟩
  go_wp2
  go_ret
  exact ⟨rfl,rfl⟩
set_option maxRecDepth 100000 in
theorem pieceNonce_any (p v:Nat) (hp:p < 16) (hv:v≤65535) (w:World) :
  Calls Tryz.prog 101 #[.int .i64 (p:Int),.int .i64 (v:Int)] w fun e w' => e = .returned (.string (pcNon p v))∧Below w.heap.size w w':=by
 have NO:Hid (∀ w:World,Calls Tryz.prog 149 #[.int .i64 (16 + (p:Int)),.int .i64 (v:Int)] w fun e w' => e = .returned (.tuple #[.string (pcNon p v),.int .i64 0])∧Below w.heap.size w w'):=fun w => by
  have:=implNonce_yes (16 + p) v (by omega) (by omega) w
  rw [show ((16 + p:Nat):Int) = 16 + (p:Int) from by omega] at this
  exact this
 have p0:(p:Int) < 16:=by omega
 have p1:(0:Int)≤(p:Int):=by omega
 generalize pcNon p v = NN at *
 clear hp hv
 go_enter Tryz.func101,Tryz.ntmps101
 go_wp2_with fail
 refine (NO.out _).mono ?_
 rintro e w1 ⟨rfl,hb⟩
 have HB:Hid (Below w.heap.size w w1):=hb
 clear hb NO
 go_wp2
 go_ret
 exact ⟨rfl,HB.out⟩
def pcSeal (k:ByteArray) (p v:Nat) (s:ByteArray):ByteArray:=kstr (sealedF k (pcNon p v) 5 pieceX s.size (strB s)) 0 (s.size + 16)
def SpIs (k:ByteArray) (p v:Int) (s T:ByteArray) (c:Int):Prop :=
 (PfP k p v s c∧c≠0∧T = ⟨#[]⟩)∨(PfP k p v s 0∧¬ (1≤s.size∧s.size≤64)∧c = 1∧T = ⟨#[]⟩)∨(PfP k p v s 0∧(1≤s.size∧s.size≤64)∧c = 0∧T = pcSeal k p.toNat v.toNat s)
theorem PfP.zero {k:ByteArray} {p v:Int} {t:ByteArray} (h:PfP k p v t 0):¬ 65536 < t.size∧k.size = 32∧(0≤p∧p < 16)∧(1≤v∧v≤65535):=by
 rcases h with ⟨e,_⟩ | ⟨e,_⟩ | ⟨e,_⟩ | ⟨_,h⟩
 ·cases e
 ·cases e
 ·cases e
 ·exact h
set_option maxRecDepth 100000 in
set_option maxHeartbeats 4000000 in
theorem implSealP_any (k:ByteArray) (p v:Int) (s T:ByteArray) (c:Int) (hA:SpIs k p v s T c) (w:World) (ht:Tabs w) :
  Calls Tryz.prog 67 #[.string k,.int .i64 p,.int .i64 v,.string s] w fun e w' => e = .returned (.tuple #[.string T,.int .i64 c])∧Below w.heap.size w w':=by
 rcases hA with ⟨h,hc,rfl⟩ | ⟨h,h1,rfl,rfl⟩ | ⟨h,h1,rfl,rfl⟩
 ·have PF:Hid (∀ w:World,Calls Tryz.prog 98 #[.string k,.int .i64 p,.int .i64 v,.string s] w fun e w' => e = .returned (.int .i64 c)∧w = w'):=pieceFault_any k p v s c h
  have e1:(c != 0) = true:=by simp [hc]
  clear h hc ht
  go_enter Tryz.func67,Tryz.ntmps67
  go_wp2_with fail
  refine (PF.out _).mono ?_
  rintro e _ ⟨rfl,rfl⟩
  go_wp2
  exact bodyPost_ret (results_tmp2 Tryz.results67 _ _ _) rfl ⟨rfl,Below.refl _ _⟩
 ·have PF:Hid (∀ w:World,Calls Tryz.prog 98 #[.string k,.int .i64 p,.int .i64 v,.string s] w fun e w' => e = .returned (.int .i64 0)∧w = w'):=pieceFault_any k p v s 0 h
  have IP:Hid (∀ w:World,Calls Tryz.prog 99 #[.string s] w fun e w' => e = .returned (.bool false)∧w = w'):=fun w => isPieceP s false (by simp; omega) w
  clear h h1 ht
  go_enter Tryz.func67,Tryz.ntmps67
  go_wp2_with fail
  refine (PF.out _).mono ?_
  rintro e _ ⟨rfl,rfl⟩
  go_wp2_with fail
  refine (IP.out _).mono ?_
  rintro e _ ⟨rfl,rfl⟩
  go_wp2
  exact bodyPost_ret (results_tmp2 Tryz.results67 _ _ _) rfl ⟨rfl,Below.refl _ _⟩
 ·have PF:Hid (∀ w:World,Calls Tryz.prog 98 #[.string k,.int .i64 p,.int .i64 v,.string s] w fun e w' => e = .returned (.int .i64 0)∧w = w'):=pieceFault_any k p v s 0 h
  have IP:Hid (∀ w:World,Calls Tryz.prog 99 #[.string s] w fun e w' => e = .returned (.bool true)∧w = w'):=fun w => isPieceP s true (by simp; omega) w
  obtain ⟨_,hk,hp,hv⟩:=h.zero
  obtain ⟨P,rfl⟩:=Int.eq_ofNat_of_zero_le hp.1
  obtain ⟨V,rfl⟩:=Int.eq_ofNat_of_zero_le (show 0≤v by omega)
  have NO:Hid (∀ w:World,Calls Tryz.prog 101 #[.int .i64 (P:Int),.int .i64 (V:Int)] w fun e w' => e = .returned (.string (pcNon P V))∧Below w.heap.size w w'):=fun w => pieceNonce_any P V (by omega) (by omega) w
  have SE:Hid (∀ (xb xc b c:Nat) (w:World),Code8 w (some ⟨xb,0,none⟩) 5 pieceX→Code8 w (some ⟨b,0,none⟩) s.size (strB s)→Tabs w→Calls Tryz.prog 100 #[.string k,.string (pcNon P V),.slice (some ⟨xb,0,none⟩) 5 xc,.slice (some ⟨b,0,none⟩) s.size c] w fun e w' => RetB2 w w' e (s.size + 16) (sealedF k (pcNon P V) 5 pieceX s.size (strB s)) (.int .i64 0)∧Below w.heap.size w w'):=fun xb xc b c w h1 h2 h3 => implSeal_yes k _ xb 0 5 xc b 0 s.size c pieceX (strB s) hk (kstr_size _ _ _) (by omega) (by omega) pieceX_lt (strB_lt _) w h1 h2 h3
  have HT:Hid (Tabs w):=ht
  have EP:Hid (pcSeal k (P:Int).toNat (V:Int).toNat s = kstr (sealedF k (pcNon P V) 5 pieceX s.size (strB s)) 0 (s.size + 16)):=rfl
  rw [EP.out]
  generalize pcNon P V = NN at *
  generalize sealedF k NN 5 pieceX s.size (strB s) = F at *
  generalize hKT:kstr F 0 (s.size + 16) = KT at *
  have HKT:Hid (kstr F 0 (s.size + 16) = KT):=hKT
  clear h h1 ht hk hp hv EP hKT
  go_enter Tryz.func67,Tryz.ntmps67
  go_wp2_with fail
  refine (PF.out _).mono ?_
  rintro e _ ⟨rfl,rfl⟩
  go_wp2_with fail
  refine (IP.out _).mono ?_
  rintro e _ ⟨rfl,rfl⟩
  go_wp2_with fail
  refine (NO.out _).mono ?_
  rintro e v2 ⟨rfl,hb⟩
  have A1:Hid (Below w.heap.size w v2):=hb
  clear hb NO PF IP
  have hcv1:(convert 68 68 (.slice (some ⟨v2.heap.size,0,none⟩) 5 5)).run Tryz.prog (v2.alloc (.cells #[.int .u8 112,.int .u8 105,.int .u8 101,.int .u8 99,.int .u8 101] 5)) = .ok (.slice (some ⟨v2.heap.size,0,none⟩) 5 5) (v2.alloc (.cells #[.int .u8 112,.int .u8 105,.int .u8 101,.int .u8 99,.int .u8 101] 5 (5,6))):=conv_rowS v2 #[.int .u8 112,.int .u8 105,.int .u8 101,.int .u8 99,.int .u8 101] 5 5
  have hbA:Below v2.heap.size v2 (v2.alloc (.cells #[.int .u8 112,.int .u8 105,.int .u8 101,.int .u8 99,.int .u8 101] 5 (5,6))):=(Below.refl _ _).alloc (Nat.le_refl _) _
  have X3:Hid (Code8 (v2.alloc (.cells #[.int .u8 112,.int .u8 105,.int .u8 101,.int .u8 99,.int .u8 101] 5 (5,6))) (some ⟨v2.heap.size,0,none⟩) 5 pieceX):=piece_code v2
  replace A1:Hid (Below w.heap.size w (v2.alloc (.cells #[.int .u8 112,.int .u8 105,.int .u8 101,.int .u8 99,.int .u8 101] 5 (5,6)))):=A1.out.trans (hbA.mono A1.out.size)
  clear hbA
  generalize (v2.alloc (.cells #[.int .u8 112,.int .u8 105,.int .u8 101,.int .u8 99,.int .u8 101] 5 (5,6))) = v3 at *
  obtain ⟨v4,c4,hcv,hk4,hb4,_⟩:=bytesOfM s v3
  have X4:Hid (Code8 v4 (some ⟨v2.heap.size,0,none⟩) 5 pieceX):=X3.out.below hb4
  have K4:Hid (Code8 v4 (some ⟨v3.heap.size,0,none⟩) s.size (strB s)):=hk4
  have B4:Hid (Below w.heap.size w v4):=A1.out.trans (hb4.mono A1.out.size)
  clear hk4 hb4 X3 A1
  go_wp2_with fail
  refine (SE.out _ _ _ _ _ X4.out K4.out (HT.out.below B4.out)).mono ?_
  rintro e v5 ⟨⟨b,c,⟨hgb,hgc⟩,rfl,ho⟩,hb⟩
  have B5:Hid (Below w.heap.size w v5):=B4.out.trans (hb.mono B4.out.size)
  have cv5:=kstr_of_code (c:=c) ho.code
  rw [HKT.out] at cv5
  clear hb ho hgb hgc hcv hcv1 X4 K4 B4 SE HT
  generalize s.size + 16 = m at *
  go_wp2
  exact bodyPost_ret (results_tmp2 Tryz.results67 _ _ _) rfl ⟨rfl,B5.out⟩
set_option maxRecDepth 100000 in
set_option maxHeartbeats 4000000 in
theorem l12Seal_any (k:ByteArray) (P V:Nat) (s:ByteArray) (hk:k.size = 32) (hP:P < 16) (hV:V≤65535) (hs:s.size≤64) (w:World) :
  Calls Tryz.prog 36 #[.string k,.int .i64 (P:Int),.int .i64 (V:Int),.string s] w fun e w' => e = .returned (.string (pcSeal k P V s))∧Below w.heap.size w w':=by
 have NO:Hid (∀ w:World,Calls Tryz.prog 53 #[.int .i64 (16 + (P:Int)),.int .i64 (V:Int)] w fun e w' => e = .returned (.string (pcNon P V))∧Below w.heap.size w w'):=fun w => by
  have:=l04Nonce_any (16 + P) V (by omega) (by omega) w
  rw [show ((16 + P:Nat):Int) = 16 + (P:Int) from by omega] at this
  exact this
 have SE:Hid (∀ (xb xc b c:Nat) (w:World),Code8 w (some ⟨xb,0,none⟩) 5 pieceX→Code8 w (some ⟨b,0,none⟩) s.size (strB s)→Calls Tryz.prog 52 #[.string k,.string (pcNon P V),.slice (some ⟨xb,0,none⟩) 5 xc,.slice (some ⟨b,0,none⟩) s.size c] w fun e w' => RetB w w' e (s.size + 16) (sealedF k (pcNon P V) 5 pieceX s.size (strB s))∧Below w.heap.size w w'):=fun xb xc b c w h1 h2 => l04Seal_any k _ xb 0 5 xc b 0 s.size c pieceX (strB s) hk (kstr_size _ _ _) (by omega) (by omega) pieceX_lt (strB_lt _) w h1 h2
 have EP:Hid (pcSeal k P V s = kstr (sealedF k (pcNon P V) 5 pieceX s.size (strB s)) 0 (s.size + 16)):=rfl
 have p0:(P:Int) < 16:=by omega
 have p1:(0:Int)≤(P:Int):=by omega
 rw [EP.out]
 generalize pcNon P V = NN at *
 generalize sealedF k NN 5 pieceX s.size (strB s) = F at *
 generalize hKT:kstr F 0 (s.size + 16) = KT at *
 have HKT:Hid (kstr F 0 (s.size + 16) = KT):=hKT
 clear hk hP hV hs EP hKT
 go_enter Tryz.func36,Tryz.ntmps36
 go_wp2_with fail
 refine (NO.out _).mono ?_
 rintro e v2 ⟨rfl,hb⟩
 have A1:Hid (Below w.heap.size w v2):=hb
 clear hb NO
 have hcv1:(convert 68 68 (.slice (some ⟨v2.heap.size,0,none⟩) 5 5)).run Tryz.prog (v2.alloc (.cells #[.int .u8 112,.int .u8 105,.int .u8 101,.int .u8 99,.int .u8 101] 5)) = .ok (.slice (some ⟨v2.heap.size,0,none⟩) 5 5) (v2.alloc (.cells #[.int .u8 112,.int .u8 105,.int .u8 101,.int .u8 99,.int .u8 101] 5 (5,6))):=conv_rowS v2 #[.int .u8 112,.int .u8 105,.int .u8 101,.int .u8 99,.int .u8 101] 5 5
 have hbA:Below v2.heap.size v2 (v2.alloc (.cells #[.int .u8 112,.int .u8 105,.int .u8 101,.int .u8 99,.int .u8 101] 5 (5,6))):=(Below.refl _ _).alloc (Nat.le_refl _) _
 have X3:Hid (Code8 (v2.alloc (.cells #[.int .u8 112,.int .u8 105,.int .u8 101,.int .u8 99,.int .u8 101] 5 (5,6))) (some ⟨v2.heap.size,0,none⟩) 5 pieceX):=piece_code v2
 replace A1:Hid (Below w.heap.size w (v2.alloc (.cells #[.int .u8 112,.int .u8 105,.int .u8 101,.int .u8 99,.int .u8 101] 5 (5,6)))):=A1.out.trans (hbA.mono A1.out.size)
 clear hbA
 generalize (v2.alloc (.cells #[.int .u8 112,.int .u8 105,.int .u8 101,.int .u8 99,.int .u8 101] 5 (5,6))) = v3 at *
 obtain ⟨v4,c4,hcv,hk4,hb4,_⟩:=bytesOfM s v3
 have X4:Hid (Code8 v4 (some ⟨v2.heap.size,0,none⟩) 5 pieceX):=X3.out.below hb4
 have K4:Hid (Code8 v4 (some ⟨v3.heap.size,0,none⟩) s.size (strB s)):=hk4
 have B4:Hid (Below w.heap.size w v4):=A1.out.trans (hb4.mono A1.out.size)
 clear hk4 hb4 X3 A1
 go_wp2_with fail
 refine (SE.out _ _ _ _ _ X4.out K4.out).mono ?_
 rintro e v5 ⟨⟨b,c,⟨hgb,hgc⟩,rfl,ho⟩,hb⟩
 have B5:Hid (Below w.heap.size w v5):=B4.out.trans (hb.mono B4.out.size)
 have cv5:=kstr_of_code (c:=c) ho.code
 rw [HKT.out] at cv5
 clear hb ho hgb hgc hcv hcv1 X4 K4 B4 SE
 generalize s.size + 16 = m at *
 go_wp2
 go_ret
 exact ⟨rfl,B5.out⟩
def planL (x:Int) (t:ByteArray):Array Value:=#[.int .i64 2,.int .i64 0,.string ⟨#[]⟩,.slice none 0 0,.int .i64 0,.int .i64 1,.int .i64 x,.string t,.slice none 0 0,.int .i64 0,.int .i64 2,.int .i64 0,.string ⟨#[]⟩,.slice none 0 0,.int .i64 0]
def PlanR (w:World) (b:Nat) (x:Int) (t:ByteArray):Prop:=w.rowIs b 53 15 (fun i => (planL x t).getD i undef)
theorem PlanR.made (w:World) (x:Int) (t:ByteArray):PlanR (w.alloc (.cells (planL x t) 53)) w.heap.size x t:=World.rowIs_alloc w (planL x t) 53 _ (fun i hi => by
 rw [Array.getD_eq_getD_getElem?,Array.getElem?_eq_getElem hi,Option.getD_some])
theorem PlanR.cell {w:World} {b:Nat} {x:Int} {t:ByteArray} (h:PlanR w b x t) (i:Nat) (hi:i < 15):w.cell? ⟨b,i,none⟩ = some ((planL x t).getD i undef):=World.rowIs.cell h hi
theorem tmod2 (e:Nat):((e:Nat):Int).tmod 2 = ((e % 2:Nat):Int):=(Int.ofNat_tmod e 2).symm
def planT (k:ByteArray) (e:Nat) (s:ByteArray):ByteArray:=kstr (slotF k (e % 2) e s) 0 (20 + s.size)
set_option maxRecDepth 100000 in
set_option maxHeartbeats 2000000 in
theorem slotActs_any (k s:ByteArray) (e0:Nat) (hk:k.size = 32) (he:e0 < 4294967296) (hs:s.size≤170) (w:World) (ht:Tabs w) :
  Calls Tryz.prog 71 #[.string k,.agg #[.int .i64 (e0:Int),.string s]] w fun e w' => (∃ b,e = .returned (.slice (some ⟨b,0,none⟩) 3 3)∧w.heap.size≤b∧PlanR w' b ((e0 % 2:Nat):Int) (planT k e0 s))∧Below w.heap.size w w':=by
 have SE:Hid (∀ w:World,Tabs w→Calls Tryz.prog 108 #[.string k,.int .i64 ((e0 % 2:Nat):Int),.agg #[.int .i64 (e0:Int),.string s]] w fun e w' => RetO w.heap.size w' e (20 + s.size) (slotF k (e0 % 2) e0 s)∧Below w.heap.size w w'):=fun w h => sealedSlot_any k s (e0 % 2) e0 hk (by omega) he (by omega) w h
 have HP:Hid (planT k e0 s = kstr (slotF k (e0 % 2) e0 s) 0 (20 + s.size)):=rfl
 generalize planT k e0 s = PT at *
 generalize slotF k (e0 % 2) e0 s = F at *
 have A1:Hid (Below w.heap.size w (w.alloc (.cells #[.int .i64 (e0:Int),.string s] 81))):=(Below.refl _ _).alloc (Nat.le_refl _) _
 have C0:Hid (Sl2 w.heap.size (e0:Int) s (w.alloc (.cells #[.int .i64 (e0:Int),.string s] 81))):=Sl2.made w _ _ _
 have HT:Hid (Tabs w):=ht
 have em:=tmod2 e0
 have em2:((e0:Nat):Int) % 2 = ((e0 % 2:Nat):Int):=by omega
 generalize e0 % 2 = P at *
 have s0:=C0.out.c0
 have s1:=C0.out.c1
 clear hk he hs ht
 go_enter Tryz.func71,Tryz.ntmps71
 go_wp2_with fail
 clear s0 s1 C0
 generalize (w.alloc (.cells #[.int .i64 (e0:Int),.string s] 81)) = v0 at *
 refine (SE.out _ (HT.out.below A1.out)).mono ?_
 rintro e v1 ⟨⟨g,c,rfl,how⟩,hb⟩
 obtain ⟨g2,c2,-,hv,ho⟩:=own8_of_own how (by intro h; cases h)
 cases hv
 have hcv:=kstr_of_code (c:=c) ho.code
 rw [← HP.out] at hcv
 replace A1:Hid (Below w.heap.size w v1):=A1.out.trans (hb.mono A1.out.size)
 have B1:Hid (w.heap.size≤v1.heap.size):=A1.out.size
 clear hb how ho SE HP HT
 go_wp2
 go_ret
 exact ⟨⟨v1.heap.size,rfl,B1.out,PlanR.made v1 (P:Int) PT⟩,A1.out.alloc A1.out.size _⟩
def erP:ByteArray:=pcT (fun _ => 0) 1 0
def erF (_:Nat):ByteArray:=erP
theorem erP_size:erP.size = 1:=by unfold erP pcT; rw [kstr_size]; rfl
theorem er_pcs:pcsN 1 = 1:=rfl
def erT (k:ByteArray):ByteArray:=pcSeal k 0 1 erP
theorem erT_size (k:ByteArray):(erT k).size = 17:=by unfold erT pcSeal; rw [kstr_size,erP_size]
theorem erT_is (k:ByteArray) (hk:k.size = 32):SpIs k 0 1 erP (erT k) 0:=.inr (.inr ⟨.inr (.inr (.inr ⟨rfl,by rw [erP_size]; omega,hk,⟨by omega,by omega⟩,by omega,by omega⟩)),by rw [erP_size]; omega,rfl,rfl⟩)
def erH (k:ByteArray):ByteArray:=bsumT 0 1 (erT k)
theorem erH_is (k:ByteArray):BsA 0 1 (erT k) (erH k) 0:=.inr (.inr (.inr ⟨by rw [erT_size]; omega,⟨⟨by omega,by omega⟩,by omega,by omega⟩,rfl,rfl⟩))
def erL (k:ByteArray) (_:Nat):Lf:=⟨1,erH k⟩
theorem erL_ok (k:ByteArray) (i:Nat):(erL k i).Ok:=⟨⟨by show (0:Int)≤1; omega,by show (1:Int)≤4294967295; omega⟩,by show (bsumT 0 1 (erT k)).size = 32; unfold bsumT; exact hashT_size _⟩
def erR (k:ByteArray):ByteArray:=treeT (erL k) 0 1
theorem erR_size (k:ByteArray):(erR k).size = 32:=treeT_size _ _ _
def erC (_:Nat):Plc:=⟨2,1⟩
theorem erS_ok (k:ByteArray):SupOk 1 1 erC (erR k):=⟨⟨by omega,by omega,rfl,erR_size k⟩,fun i hi => ⟨by unfold Plc.Ok erC; simp,fun j hj => by omega⟩⟩
theorem erS_len (k:ByteArray):(supL 1 1 erC (erR k)).length = 37:=by rw [supL_length,erR_size]
theorem er_dirty:dirL (DirtAt 0 erF erF) 1 = [0]:=by
 rw [dirL_yes (show DirtAt 0 erF erF 0 from fun h => absurd h.1 (by omega))]
 rfl
theorem er_dp:DpIs 0 1 erF erF [0] 0:=.inr (.inr ⟨rfl,⟨⟨by omega,fun i hi => absurd hi (Nat.not_lt_zero _)⟩,by omega,fun i hi => ⟨by show 1≤erP.size∧erP.size≤64; rw [erP_size]; omega,fun h => absurd h (by omega)⟩⟩,er_dirty.symm⟩)
theorem er_free (P:Nat→Plc):∀ m,dirL (FreeAt 0 P) (m + 2) = (List.range m).map (· + 2)
 | 0 => free2 0 P
 | m + 1 => by
  rw [dirL_yes (show FreeAt 0 P (m + 2) from ⟨by omega,fun ⟨j,hj,_⟩ => absurd hj (Nat.not_lt_zero _)⟩),er_free P m,List.range_succ,List.map_append]
  rfl
theorem er_free_len (P:Nat→Plc) (n:Nat) (h:4≤n):(dirL (FreeAt 0 P) n).length = n - 2:=by
 obtain ⟨m,rfl⟩:∃ m,n = m + 2:=⟨n - 2,by omega⟩
 rw [er_free]; simp
theorem er_free_0 (P:Nat→Plc) (n:Nat) (h:4≤n):nthI (dirL (FreeAt 0 P) n) 0 = 2:=by
 obtain ⟨m,rfl⟩:∃ m,n = m + 1 + 2:=⟨n - 3,by omega⟩
 rw [er_free]
 unfold nthI
 simp [List.range_succ_eq_map]
def ActR (w:World) (b m:Nat) (AC:Nat→Ac):Prop:=b < w.heap.size∧∀ k,k < m→w.cell? ⟨b,k * 5,none⟩ = some (.int .i64 (AC k).kd)∧w.cell? ⟨b,k * 5 + 1,none⟩ = some (.int .i64 (AC k).x)∧w.cell? ⟨b,k * 5 + 2,none⟩ = some (.string (AC k).s)∧w.cell? ⟨b,k * 5 + 3,none⟩ = some (.slice none 0 0)∧w.cell? ⟨b,k * 5 + 4,none⟩ = some (.int .i64 (AC k).t)
theorem ActR.lt {w:World} {b m:Nat} {AC:Nat→Ac} (h:ActR w b m AC):b < w.heap.size:=h.1
theorem ActR.act {w:World} {b m:Nat} {AC:Nat→Ac} (h:ActR w b m AC) (k:Nat) (hk:k < m):w.cell? ⟨b,k * 5,none⟩ = some (.int .i64 (AC k).kd)∧w.cell? ⟨b,k * 5 + 1,none⟩ = some (.int .i64 (AC k).x)∧w.cell? ⟨b,k * 5 + 2,none⟩ = some (.string (AC k).s)∧w.cell? ⟨b,k * 5 + 3,none⟩ = some (.slice none 0 0)∧w.cell? ⟨b,k * 5 + 4,none⟩ = some (.int .i64 (AC k).t):=h.2 k hk
theorem ActR.of_block {w w':World} {b m:Nat} {AC:Nat→Ac} (h:ActR w b m AC) (e:w'.heap[b]? = w.heap[b]?):ActR w' b m AC:=by
 refine ⟨?_,fun k hk => ?_⟩
 ·have:=Array.getElem?_eq_getElem h.1
  rw [← e] at this
  exact (Array.getElem?_eq_some_iff.1 this).1
 ·obtain ⟨q0,q1,q2,q3,q4⟩:=h.2 k hk
  exact ⟨(World.cell?_of_block e).trans q0,(World.cell?_of_block e).trans q1,(World.cell?_of_block e).trans q2,(World.cell?_of_block e).trans q3,(World.cell?_of_block e).trans q4⟩
theorem ActR.below {w w':World} {b m:Nat} {AC:Nat→Ac} (h:ActR w b m AC) (hb:Below w.heap.size w w'):ActR w' b m AC:=h.of_block (hb.block b h.1)
def RetV (w':World) (e:Ending) (d:Dk):Prop:=∃ (a0 a1 a2:Option Addr) (c0 c1 c2:Nat),e = .returned (.agg #[.slice a0 d.nb c0,.slice a1 d.nc c1,.slice a2 d.ns c2])∧DiskV w' d a0 a1 a2∧(a0 = none→c0 = 0)∧(a1 = none→c1 = 0)∧(a2 = none→c2 = 0)
set_option maxRecDepth 100000 in
set_option maxHeartbeats 8000000 in
theorem l06DoL (DD:Nat→Dk) (AC:Nat→Ac) (m mc:Nat) (hm:m≤1000) (sp:∀ (q:Nat) (a0 a1 a2:Option Addr) (c0 c1 c2:Nat) (w:World),q < m→(a0 = none→c0 = 0)∧(a1 = none→c1 = 0)∧(a2 = none→c2 = 0)→DiskV w (DD q) a0 a1 a2→Calls Tryz.prog 40 #[.agg #[.slice a0 (DD q).nb c0,.slice a1 (DD q).nc c1,.slice a2 (DD q).ns c2],.agg #[.int .i64 (AC q).kd,.int .i64 (AC q).x,.string (AC q).s,.slice none 0 0,.int .i64 (AC q).t]] w fun e w' => (∃ code,RetT w.heap.size a0 a1 a2 w' e (DD (q + 1)) code)∧Below w.heap.size w w') (a0 a1 a2:Option Addr) (c0 c1 c2 b:Nat) (z0:a0 = none→c0 = 0) (z1:a1 = none→c1 = 0) (z2:a2 = none→c2 = 0) (w:World) (h:DiskV w (DD 0) a0 a1 a2) (hp:ActR w b m AC) :
  Calls Tryz.prog 22 #[.agg #[.slice a0 (DD 0).nb c0,.slice a1 (DD 0).nc c1,.slice a2 (DD 0).ns c2],.slice (some ⟨b,0,none⟩) m mc] w fun e w' => RetV w' e (DD m)∧Below w.heap.size w w':=by
 have A1:Hid (Below w.heap.size w ((w.alloc (.cells #[.slice a0 (DD 0).nb c0,.slice a1 (DD 0).nc c1,.slice a2 (DD 0).ns c2] 25)).alloc (.cells #[.slice none 0 0,.slice none 0 0,.slice none 0 0] 25))):=((Below.refl w.heap.size w).alloc (Nat.le_refl _) _).alloc (by simp) _
 have X0:Hid (Box3 ((w.alloc (.cells #[.slice a0 (DD 0).nb c0,.slice a1 (DD 0).nc c1,.slice a2 (DD 0).ns c2] 25)).alloc (.cells #[.slice none 0 0,.slice none 0 0,.slice none 0 0] 25)) (w.heap.size + 1) 25 (.slice none 0 0) (.slice none 0 0) (.slice none 0 0)):=Box3.madeAt (by simp) _ _ _ _
 have Y0:Hid (Box3 ((w.alloc (.cells #[.slice a0 (DD 0).nb c0,.slice a1 (DD 0).nc c1,.slice a2 (DD 0).ns c2] 25)).alloc (.cells #[.slice none 0 0,.slice none 0 0,.slice none 0 0] 25)) w.heap.size 25 (.slice a0 (DD 0).nb c0) (.slice a1 (DD 0).nc c1) (.slice a2 (DD 0).ns c2)):=(Box3.made w _ _ _ _).alloc _
 have DV:Hid (DiskV ((w.alloc (.cells #[.slice a0 (DD 0).nb c0,.slice a1 (DD 0).nc c1,.slice a2 (DD 0).ns c2] 25)).alloc (.cells #[.slice none 0 0,.slice none 0 0,.slice none 0 0] 25)) (DD 0) a0 a1 a2):=h.below A1.out
 have PR:Hid (ActR ((w.alloc (.cells #[.slice a0 (DD 0).nb c0,.slice a1 (DD 0).nc c1,.slice a2 (DD 0).ns c2] 25)).alloc (.cells #[.slice none 0 0,.slice none 0 0,.slice none 0 0] 25)) b m AC):=hp.below A1.out
 have HB:Hid (b < w.heap.size):=hp.lt
 have SP:Hid (∀ (q:Nat) (a0 a1 a2:Option Addr) (c0 c1 c2:Nat) (w:World),q < m→(a0 = none→c0 = 0)∧(a1 = none→c1 = 0)∧(a2 = none→c2 = 0)→DiskV w (DD q) a0 a1 a2→Calls Tryz.prog 40 #[.agg #[.slice a0 (DD q).nb c0,.slice a1 (DD q).nc c1,.slice a2 (DD q).ns c2],.agg #[.int .i64 (AC q).kd,.int .i64 (AC q).x,.string (AC q).s,.slice none 0 0,.int .i64 (AC q).t]] w fun e w' => (∃ code,RetT w.heap.size a0 a1 a2 w' e (DD (q + 1)) code)∧Below w.heap.size w w'):=sp
 have HM:Hid (m≤1000):=hm
 have ZC0:Hid ((a0 = none→c0 = 0)∧(a1 = none→c1 = 0)∧(a2 = none→c2 = 0)):=⟨z0,z1,z2⟩
 clear h hp sp hm z0 z1 z2
 go_enter Tryz.func22,Tryz.ntmps22
 go_wp2
 generalize ((w.alloc (.cells #[.slice a0 (DD 0).nb c0,.slice a1 (DD 0).nc c1,.slice a2 (DD 0).ns c2] 25)).alloc (.cells #[.slice none 0 0,.slice none 0 0,.slice none 0 0] 25)) = u at *
 go_loopw [5] (fun i wr => ∃ (q:Nat) (a0 a1 a2:Option Addr) (c0 c1 c2:Nat),q≤m∧i = .int .i64 (q:Int)∧Box3 wr w.heap.size 25 (.slice a0 (DD q).nb c0) (.slice a1 (DD q).nc c1) (.slice a2 (DD q).ns c2)∧DiskV wr (DD q) a0 a1 a2∧((a0 = none→c0 = 0)∧(a1 = none→c1 = 0)∧(a2 = none→c2 = 0))∧ActR wr b m AC∧Box3 wr (w.heap.size + 1) 25 (.slice none 0 0) (.slice none 0 0) (.slice none 0 0)∧Below w.heap.size w wr) (fun i _ => m - (intOf i).toNat)
 case atStart => exact ⟨0,a0,a1,a2,c0,c1,c2,by omega,rfl,Y0.out,DV.out,ZC0.out,PR.out,X0.out,A1.out⟩
 case round =>
  clear A1 X0 Y0 DV PR ZC0
  obtain ⟨q,a0,a1,a2,c0,c1,c2,hq,rfl,bx,dv,zc,pr,xz,hb⟩:=hrel
  have BX:Hid (Box3 wr w.heap.size 25 (.slice a0 (DD q).nb c0) (.slice a1 (DD q).nc c1) (.slice a2 (DD q).ns c2)):=bx
  have DV:Hid (DiskV wr (DD q) a0 a1 a2):=dv
  have ZC:Hid ((a0 = none→c0 = 0)∧(a1 = none→c1 = 0)∧(a2 = none→c2 = 0)):=zc
  have PR:Hid (ActR wr b m AC):=pr
  have XZ:Hid (Box3 wr (w.heap.size + 1) 25 (.slice none 0 0) (.slice none 0 0) (.slice none 0 0)):=xz
  have A1:Hid (Below w.heap.size w wr):=hb
  clear bx dv zc pr xz hb
  by_cases hlt:q < m
  ·have hlt':(q:Int) < (m:Int):=by omega
   have hq0:(0:Int)≤(q:Int):=by omega
   have hm0:=HM.out
   go_wp2_with fail
   have hb:Below wr.heap.size wr wr.drew:=(Below.refl _ _).drew
   have H:ActR wr.drew b m AC:=PR.out.below hb
   replace A1:=hid (A1.out.trans (hb.mono A1.out.size))
   replace BX:=hid (BX.out.below hb)
   replace DV:=hid (DV.out.below hb)
   replace XZ:=hid (XZ.out.below hb)
   clear hb PR
   refine wp_region_noPanic ?_
   refine wp_region_held_drew (S:=fun w' => ActR w' b m AC) (by kernel_rfl) H (fun _ => ?_)
   generalize wr.drew = y0 at *
   refine tkH (i:=1) (v:=.slice (some ⟨b,0,none⟩) m mc) rfl (by kernel_rfl) (by rfl) ?_ H ?_
   ·intro w' hSw; go_simp
   refine ch22 ?_
   refine tkH (i:=2) (v:=.int .i64 (q:Int)) rfl (by kernel_rfl) (by rfl) ?_ H ?_
   ·intro w' hSw; go_simp
   refine ch22 ?_
   refine tkH (i:=3) (v:=.pointer (some ⟨b,q * 5,none⟩)) rfl (by kernel_rfl) (by rfl) ?_ H ?_
   ·intro w' hSw; go_simp
   refine ch22 ?_
   refine tkH (i:=4) (v:=.agg #[.int .i64 (AC q).kd,.int .i64 (AC q).x,.string (AC q).s,.slice none 0 0,.int .i64 (AC q).t]) rfl (by kernel_rfl) (by rfl) ?_ H ?_
   ·intro w' hSw; obtain ⟨q0,q1,q2,q3,q4⟩:=hSw.act q hlt; clear hSw; go_simp
   refine ch22 ?_
   refine rdH (i:=0) (by kernel_rfl) rfl (fun KK hK => ?_)
   have t0:=BX.out.c0
   have t1:=BX.out.c1
   have t2:=BX.out.c2
   go_simp
   clear t0 t1 t2
   refine hK.out _ _ H (fun _ => ?_)
   clear hK KK
   refine ch22 ?_
   apply tg0
   rotate_left
   exact trivial
   case' q0 =>
    refine rdH (i:=5) (by kernel_rfl) rfl (fun KK hK => ?_)
    go_simp
    refine (SP.out q _ _ _ _ _ _ _ hlt ZC.out DV.out).mono ?_
    rintro e y1 ⟨⟨code,ra0,ra1,ra2,rc0,rc1,rc2,rfl,rd,n0,n1,n2,-⟩,hb⟩
    replace A1:=hid (A1.out.trans (hb.mono A1.out.size))
    replace BX:=hid (BX.out.below hb)
    replace DV:=hid (DV.out.below hb)
    replace XZ:=hid (XZ.out.below hb)
    replace H:=H.below hb
    have RV:Hid (DiskV y1 (DD (q + 1)) ra0 ra1 ra2):=rd
    have RZ:Hid ((ra0 = none→rc0 = 0)∧(ra1 = none→rc1 = 0)∧(ra2 = none→rc2 = 0)):=⟨n0,n1,n2⟩
    clear hb rd n0 n1 n2 DV ZC SP
    obtain ⟨dn,hdn⟩:∃ dn,dn = DD (q + 1):=⟨_,rfl⟩
    rw [← hdn] at RV ⊢
    have HDN:Hid (dn = DD (q + 1)):=hdn
    clear hdn
    refine hK.out _ _ H (fun _ => ?_)
    clear hK KK
    refine ch22 ?_
    refine tkH (i:=6) (v:=.tuple #[.agg #[.slice ra0 (dn).nb rc0,.slice ra1 (dn).nc rc1,.slice ra2 (dn).ns rc2],.int .i64 code]) rfl (by kernel_rfl) (by rfl) ?_ H ?_
    ·intro w' hSw; go_simp
    refine ch22 ?_
    refine tkH (i:=7) (v:=.agg #[.slice ra0 (dn).nb rc0,.slice ra1 (dn).nc rc1,.slice ra2 (dn).ns rc2]) rfl (by kernel_rfl) (by rfl) ?_ H ?_
    ·intro w' hSw; go_simp
    refine ch22 ?_
    refine tkH (i:=8) (v:=.int .i64 code) rfl (by kernel_rfl) (by rfl) ?_ H ?_
    ·intro w' hSw; go_simp
    refine ch22 ?_
   case' q0 =>
    refine rdH (i:=9) (by kernel_rfl) rfl (fun KK hK => ?_)
    have ho:OnlyB w.heap.size y1 (((y1.setCell ⟨w.heap.size,0,none⟩ (.slice ra0 (dn).nb rc0)).setCell ⟨w.heap.size,1,none⟩ (.slice ra1 (dn).nc rc1)).setCell ⟨w.heap.size,2,none⟩ (.slice ra2 (dn).ns rc2)):=(((OnlyB.refl _ y1).setCell 0 _).setCell 1 _).setCell 2 _
    have BX5:Hid (Box3 (((y1.setCell ⟨w.heap.size,0,none⟩ (.slice ra0 (dn).nb rc0)).setCell ⟨w.heap.size,1,none⟩ (.slice ra1 (dn).nc rc1)).setCell ⟨w.heap.size,2,none⟩ (.slice ra2 (dn).ns rc2)) w.heap.size 25 (.slice ra0 (dn).nb rc0) (.slice ra1 (dn).nc rc1) (.slice ra2 (dn).ns rc2)):=((BX.out.set0 _).set1 _).set2 _
    have RV5:Hid (DiskV (((y1.setCell ⟨w.heap.size,0,none⟩ (.slice ra0 (dn).nb rc0)).setCell ⟨w.heap.size,1,none⟩ (.slice ra1 (dn).nc rc1)).setCell ⟨w.heap.size,2,none⟩ (.slice ra2 (dn).ns rc2)) dn ra0 ra1 ra2):=RV.out.stored BX.out _ _ _
    have XZ5:Hid (Box3 (((y1.setCell ⟨w.heap.size,0,none⟩ (.slice ra0 (dn).nb rc0)).setCell ⟨w.heap.size,1,none⟩ (.slice ra1 (dn).nc rc1)).setCell ⟨w.heap.size,2,none⟩ (.slice ra2 (dn).ns rc2)) (w.heap.size + 1) 25 (.slice none 0 0) (.slice none 0 0) (.slice none 0 0)):=XZ.out.ofBlock (ho.block _ XZ.out.lt (by omega))
    have A5:Hid (Below w.heap.size w (((y1.setCell ⟨w.heap.size,0,none⟩ (.slice ra0 (dn).nb rc0)).setCell ⟨w.heap.size,1,none⟩ (.slice ra1 (dn).nc rc1)).setCell ⟨w.heap.size,2,none⟩ (.slice ra2 (dn).ns rc2))):=A1.out.trans (ho.toBelow (Nat.le_refl _) A1.out.size)
    replace H:ActR (((y1.setCell ⟨w.heap.size,0,none⟩ (.slice ra0 (dn).nb rc0)).setCell ⟨w.heap.size,1,none⟩ (.slice ra1 (dn).nc rc1)).setCell ⟨w.heap.size,2,none⟩ (.slice ra2 (dn).ns rc2)) b m AC:=H.of_block (ho.block _ H.lt (by have:=HB.out; omega))
    have x0:=BX.out.c0
    have x1:=BX.out.c1
    have x2:=BX.out.c2
    have f0:=BX.out.fr 0
    have f1:=BX.out.fr 1
    have f2:=BX.out.fr 2
    clear ho BX RV XZ A1
    go_simp
    clear x0 x1 x2 f0 f1 f2
    refine hK.out _ _ H (fun _ => ?_)
    clear hK KK
    refine ch22 ?_
   case' q0 =>
    refine wpAnyH_done (by kernel_rfl) ?_ _
    refine NoPanic.normal ?_
    have PR:Hid (ActR _ b m AC):=H
    clear H
    go_wp2
    have hdn:dn = DD (q + 1):=HDN.out
    clear HDN
    subst hdn
    go_roundw
    case rel => exact ⟨q + 1,ra0,ra1,ra2,rc0,rc1,rc2,by omega,by go_num,BX5.out,RV5.out,RZ.out,PR.out,XZ5.out,A5.out⟩
    case measure => simp [intOf]; omega
  ·have hlt':¬ (q:Int) < (m:Int):=by omega
   obtain rfl:m = q:=by omega
   have O5:OnlyB (w.heap.size + 1) wr (((wr.setCell ⟨w.heap.size + 1,0,none⟩ (.slice a0 (DD m).nb c0)).setCell ⟨w.heap.size + 1,1,none⟩ (.slice a1 (DD m).nc c1)).setCell ⟨w.heap.size + 1,2,none⟩ (.slice a2 (DD m).ns c2)):=(((OnlyB.refl _ wr).setCell 0 _).setCell 1 _).setCell 2 _
   have X5:Hid (Box3 (((wr.setCell ⟨w.heap.size + 1,0,none⟩ (.slice a0 (DD m).nb c0)).setCell ⟨w.heap.size + 1,1,none⟩ (.slice a1 (DD m).nc c1)).setCell ⟨w.heap.size + 1,2,none⟩ (.slice a2 (DD m).ns c2)) (w.heap.size + 1) 25 (.slice a0 (DD m).nb c0) (.slice a1 (DD m).nc c1) (.slice a2 (DD m).ns c2)):=((XZ.out.set0 _).set1 _).set2 _
   have V5:Hid (DiskV (((wr.setCell ⟨w.heap.size + 1,0,none⟩ (.slice a0 (DD m).nb c0)).setCell ⟨w.heap.size + 1,1,none⟩ (.slice a1 (DD m).nc c1)).setCell ⟨w.heap.size + 1,2,none⟩ (.slice a2 (DD m).ns c2)) (DD m) a0 a1 a2):=DV.out.stored XZ.out _ _ _
   have B5:Hid (Below w.heap.size w (((wr.setCell ⟨w.heap.size + 1,0,none⟩ (.slice a0 (DD m).nb c0)).setCell ⟨w.heap.size + 1,1,none⟩ (.slice a1 (DD m).nc c1)).setCell ⟨w.heap.size + 1,2,none⟩ (.slice a2 (DD m).ns c2))):=A1.out.trans (O5.toBelow (by omega) A1.out.size)
   have d0:=BX.out.c0
   have d1:=BX.out.c1
   have d2:=BX.out.c2
   have x0:=XZ.out.c0
   have x1:=XZ.out.c1
   have x2:=XZ.out.c2
   have f0:=XZ.out.fr 0
   have f1:=XZ.out.fr 1
   have f2:=XZ.out.fr 2
   clear O5 XZ A1 BX DV PR
   go_wp2
   generalize (((wr.setCell ⟨w.heap.size + 1,0,none⟩ (.slice a0 (DD m).nb c0)).setCell ⟨w.heap.size + 1,1,none⟩ (.slice a1 (DD m).nc c1)).setCell ⟨w.heap.size + 1,2,none⟩ (.slice a2 (DD m).ns c2)) = u5 at *
   clear d0 d1 d2 x0 x1 x2 f0 f1 f2
   have y0:=X5.out.c0
   have y1:=X5.out.c1
   have y2:=X5.out.c2
   exact ret_cell (b:=w.heap.size + 1) (v:=.agg #[.slice a0 (DD m).nb c0,.slice a1 (DD m).nc c1,.slice a2 (DD m).ns c2]) Tryz.results22 rfl (by go_simp) ⟨⟨a0,a1,a2,c0,c1,c2,rfl,V5.out,ZC.out.1,ZC.out.2.1,ZC.out.2.2⟩,B5.out⟩
def avV (x:Ac) (j:Nat):Value:=if j = 0 then .int .i64 x.kd else if j = 1 then .int .i64 x.x else if j = 2 then .string x.s else if j = 3 then .slice none 0 0 else .int .i64 x.t
def avF (A:Nat→Ac) (i j:Nat):Value:=avV (A i) j
theorem Tryz.infoAcE:(Tryz.prog.info? 53).map (fun i => (i.zero,i.size,i.bytes)) = some (some (.agg #[.int .i64 0,.int .i64 0,.string ⟨#[]⟩,.slice none 0 0,.int .i64 0]),5,64):=by kernel_rfl
theorem avV_one (x:Ac) (j:Nat) (hj:j < 5):(avV x j).oneCell' = true:=by
 rcases (show j = 0∨j = 1∨j = 2∨j = 3∨j = 4 by omega) with rfl | rfl | rfl | rfl | rfl <;> rfl
set_option maxRecDepth 100000 in
theorem appActs (w:World) (B:Nat) (v:Value) (n:Nat) (A:Nat→Ac) (q m c:Nat) (D:Nat→Ac) (hB:B≤w.heap.size) (hn:n + m≤1000) (h:EO w B 53 5 v n (avF A)) (hx:∀ i,i < m→∀ j,j < 5→w.cell? ⟨q,0 + i * 5 + j,none⟩ = some (avF D i j)) :
  ∃ v' w',(∀ ty,(Builtin.append_ #[41,41] ty #[v,.slice (some ⟨q,0,none⟩) m c]).run Tryz.prog w = .ok v' w')∧EO w' B 53 5 v' (n + m) (avF (catE n A D))∧w.grownBy w' v.ownBlock∧(v'.ownBlock = v.ownBlock∨v'.ownBlock = some w.heap.size):=by
 obtain ⟨i,hi,hz,hsz,hby⟩:=info_parts Tryz.infoAcE
 have key:∀ ty,∃ v' w',(Builtin.append_ #[41,41] ty #[v,.slice (some ⟨q,0,none⟩) m c]).run Tryz.prog w = .ok v' w'∧w'.ownsRow B 53 5 v' (n + m) (elv 5 n (avF A) ++ elv 5 m (avF D))∧w.grownBy w' v.ownBlock∧(v' = .slice none 0 0 ↔ v = .slice none 0 0∧m = 0)∧(v'.ownBlock = v.ownBlock∨v'.ownBlock = some w.heap.size):=fun ty => run_append_own_at (P:=Tryz.prog) w B 41 ty 53 i _ 5 64 Tryz.underlying41 hi hz hsz hby rfl (by decide) v n _ h ⟨q,0,none⟩ m c (elv 5 m (avF D)) (elv_length _ _ _) (elv_news hx) (fun u hu => by
   unfold elv at hu
   obtain ⟨j,hj,rfl⟩:=List.mem_map.1 hu
   exact avV_one _ _ (Nat.mod_lt _ (by omega))) (by unfold maxLen; omega) (by omega) hB
 obtain ⟨v',w',hr,ho,hg,_,hloc⟩:=key 41
 refine ⟨v',w',fun ty => hr,?_,hg,hloc⟩
 unfold EO
 rw [elv_cat 5 n (avF A) (avF D) (avF (catE n A D)) (fun i hi => by unfold avF; rw [catE_lt _ _ hi]) (fun i => by unfold avF; rw [catE_at]) m]
 exact ho
theorem EO.actR {w:World} {B:Nat} {v:Value} {n:Nat} {A:Nat→Ac} (h:EO w B 53 5 v n (avF A)) (hn:0 < n):∃ g c,v = .slice (some ⟨g,0,none⟩) n c∧B≤g∧ActR w g n A:=by
 obtain ⟨a,c,rfl⟩:=h.form
 obtain ⟨g,hr,hg⟩:=h.rowE
 obtain rfl:a = some ⟨g,0,none⟩:=hr.a hn
 refine ⟨g,c,rfl,hg hn,(h.ge g rfl).2,fun k hk => ?_⟩
 obtain ⟨b',off',e',hc'⟩:=h.els k hk
 cases e'
 have q:=fun j hj => hc' j hj
 simp only [Nat.zero_add] at q
 exact ⟨q 0 (by omega),q 1 (by omega),q 2 (by omega),q 3 (by omega),q 4 (by omega)⟩
def erSup (k:ByteArray):ByteArray:=kstr (fun i => (supL 1 1 erC (erR k)).getD i 0) 0 37
theorem erSup_size (k:ByteArray):(erSup k).size = 37:=kstr_size _ _ _
def erAC (k:ByteArray) (i:Nat):Ac:=if i = 0 then ⟨1,2,erT k,0,fun _ => false,0⟩ else if i = 2 then ⟨1,1,planT k 1 (erSup k),0,fun _ => false,0⟩ else ⟨2,0,⟨#[]⟩,0,fun _ => false,0⟩
def RetPl (B:Nat) (k:ByteArray) (e:Ending) (w':World):Prop:=∃ x c,e = .returned (.tuple #[.slice (some ⟨x,0,none⟩) 4 c,.string (erR k),.int .i64 0])∧B≤x∧ActR w' x 4 (erAC k)
theorem code0 (w:World):Code8 (w.alloc (.cells #[.int .u8 0] 5)) (some ⟨w.heap.size,0,none⟩) 1 (fun _ => 0):=code8_of (fun r hr => by
 obtain rfl:r = 0:=by omega
 simp)
theorem erCells (u:World) (T:ByteArray):∀ i,i < 1→∀ j,j < 5→(u.alloc (.cells #[.int .i64 1,.int .i64 2,.string T,.slice none 0 0,.int .i64 0] 53)).cell? ⟨u.heap.size,0 + i * 5 + j,none⟩ = some (avF (fun _ => ⟨1,2,T,0,fun _ => false,0⟩) i j):=fun i hi j hj => by
 obtain rfl:i = 0:=by omega
 have hr:=World.rowIs_alloc u #[.int .i64 1,.int .i64 2,.string T,.slice none 0 0,.int .i64 0] 53 (fun i => avF (fun _ => ⟨1,2,T,0,fun _ => false,0⟩) 0 i) (fun i hi => by
  match i,hi with
  | 0,_ => rfl
  | 1,_ => rfl
  | 2,_ => rfl
  | 3,_ => rfl
  | 4,_ => rfl)
 have:=hr.cell (i:=j) (by simpa using hj)
 simpa using this
theorem planCells {u:World} {b:Nat} {t:ByteArray} (h:PlanR u b 1 t):∀ i,i < 3→∀ j,j < 5→u.cell? ⟨b,0 + i * 5 + j,none⟩ = some (avF (fun i => if i = 1 then ⟨1,1,t,0,fun _ => false,0⟩ else ⟨2,0,⟨#[]⟩,0,fun _ => false,0⟩) i j):=fun i hi j hj => by
 rcases (show i = 0∨i = 1∨i = 2 by omega) with rfl | rfl | rfl
 ·rcases (show j = 0∨j = 1∨j = 2∨j = 3∨j = 4 by omega) with rfl | rfl | rfl | rfl | rfl <;> exact h.cell _ (by omega)
 ·rcases (show j = 0∨j = 1∨j = 2∨j = 3∨j = 4 by omega) with rfl | rfl | rfl | rfl | rfl <;> exact h.cell _ (by omega)
 ·rcases (show j = 0∨j = 1∨j = 2∨j = 3∨j = 4 by omega) with rfl | rfl | rfl | rfl | rfl <;> exact h.cell _ (by omega)
def CelI (w:World) (b:Nat) (x:Int):Prop:=b < w.heap.size∧w.cell? ⟨b,0,none⟩ = some (.int .i64 x)
theorem CelI.below {w w':World} {b:Nat} {x:Int} (h:CelI w b x) (hb:Below w.heap.size w w'):CelI w' b x:=⟨Nat.lt_of_lt_of_le h.1 hb.size,(World.cell?_of_block (hb.block b h.1)).trans h.2⟩
theorem IE.cel {w:World} {B n c:Nat} {a:Option Addr} {C:Nat→Int} (h:IE w B (.slice a n c) n C) (hn:0 < n):∃ g,a = some ⟨g,0,none⟩∧CelI w g (C 0):=by
 obtain ⟨g,hr,hg⟩:=EO.rowE h
 obtain rfl:a = some ⟨g,0,none⟩:=hr.a hn
 refine ⟨g,rfl,(EO.ge h g rfl).2,?_⟩
 have:=hr.c 0 hn 0 (by omega)
 simpa [inF] using this
set_option maxRecDepth 100000 in
theorem appLfE (w:World) (B:Nat) (v:Value) (n q:Nat) (R:Nat→Lf) (x:Lf) (hB:B≤w.heap.size) (hn:n≤100000) (h:EO w B 106 2 v n (lfF R)) (hx:∀ j,j < 2→w.cell? ⟨q,0 + j,none⟩ = some (lfV x j)) :
  ∃ v' w',(∀ ty,(Builtin.append_ #[103,103] ty #[v,.slice (some ⟨q,0,none⟩) 1 1]).run Tryz.prog w = .ok v' w')∧EO w' B 106 2 v' (n + 1) (lfF (updE R n x))∧w.grownBy w' v.ownBlock:=by
 obtain ⟨i,hi,hz,hsz,hby⟩:=info_parts Tryz.infoLf
 obtain ⟨v',w',hr,ho,hg,_,hloc⟩:=run_append_own_at (P:=Tryz.prog) w B 103 103 106 i _ 2 24 Tryz.underlying103 hi hz hsz hby rfl (by decide) v n _ h ⟨q,0,none⟩ 1 1 ((List.range 2).map (lfV x)) (by simp) (fun j u hj => by
  rw [Go.WideShapes.add_plain]
  rw [List.getElem?_map,Option.map_eq_some_iff] at hj
  obtain ⟨b,hb,rfl⟩:=hj
  obtain ⟨hj',rfl⟩:=List.getElem?_eq_some_iff.1 hb
  rw [List.getElem_range]
  exact hx j (by simpa using hj')) (fun u hu => by
   obtain ⟨j,hj,rfl⟩:=List.mem_map.1 hu
   have:=List.mem_range.1 hj
   rcases (show j = 0∨j = 1 by omega) with rfl | rfl <;> rfl) (by unfold maxLen; omega) (by omega) hB
 refine ⟨v',w',fun ty => hr,?_,hg⟩
 unfold EO
 rw [elv_snoc,elv_congr (G:=lfF R) (fun i hi j hj => by unfold lfF updE; rw [if_neg (by omega)])]
 have e:(List.range 2).map (lfF (updE R n x) n) = (List.range 2).map (lfV x):=by unfold lfF updE; simp
 rw [e]
 exact ho
theorem lfCells (u:World) (T:ByteArray):∀ j,j < 2→(u.alloc (.cells #[.int .i64 1,.string T] 106)).cell? ⟨u.heap.size,0 + j,none⟩ = some (lfV ⟨1,T⟩ j):=fun j hj => by
 have hr:=World.rowIs_alloc u #[.int .i64 1,.string T] 106 (fun i => lfV ⟨1,T⟩ i) (fun i hi => by
  match i,hi with
  | 0,_ => rfl
  | 1,_ => rfl)
 have:=hr.cell (i:=j) (by simpa using hj)
 simpa using this
def RtF (w:World) (sg pg:Nat) (T:ByteArray):Prop:=(sg < w.heap.size∧w.cell? ⟨sg,0,none⟩ = some (.string T))∧(pg < w.heap.size∧w.cell? ⟨pg,0,none⟩ = some (.int .i64 2)∧w.cell? ⟨pg,1,none⟩ = some (.int .i64 1))
theorem RtF.below {w w':World} {sg pg:Nat} {T:ByteArray} (h:RtF w sg pg T) (hb:Below w.heap.size w w'):RtF w' sg pg T:=⟨⟨Nat.lt_of_lt_of_le h.1.1 hb.size,(World.cell?_of_block (hb.block sg h.1.1)).trans h.1.2⟩,Nat.lt_of_lt_of_le h.2.1 hb.size,(World.cell?_of_block (hb.block pg h.2.1)).trans h.2.2.1,(World.cell?_of_block (hb.block pg h.2.1)).trans h.2.2.2⟩
def RtI (w wr:World) (HK:ByteArray) (s i:Value):Prop:=Below w.heap.size w wr∧((i = .int .i64 0∧s = .slice (some ⟨w.heap.size,0,none⟩) 0 0∧EO wr w.heap.size 106 2 (.slice (some ⟨w.heap.size,0,none⟩) 0 0) 0 (lfF (fun _ => ⟨1,HK⟩)))∨(i = .int .i64 1∧∃ a c,s = .slice a 1 c∧EO wr w.heap.size 106 2 (.slice a 1 c) 1 (lfF (fun _ => ⟨1,HK⟩))))
set_option maxRecDepth 100000 in
set_option maxHeartbeats 4000000 in
theorem l13Root_one (k:ByteArray) (sg pg sc pc:Nat) (w:World) (h:RtF w sg pg (erT k)) :
  Calls Tryz.prog 37 #[.slice (some ⟨sg,0,none⟩) 1 sc,.slice (some ⟨pg,0,none⟩) 1 pc] w fun e w' => e = .returned (.string (erR k))∧Below w.heap.size w w':=by
 have SU:Hid (∀ w:World,Calls Tryz.prog 54 #[.int .i64 0,.int .i64 1,.string (erT k)] w fun e w' => e = .returned (.string (erH k))∧Below w.heap.size w w'):=fun w => l10Sum_any 0 1 (erT k) (by omega) (by omega) (by rw [erT_size]; omega) w
 have TR:Hid (∀ (a:Option Addr) (c B:Nat) (w:World),EO w B 106 2 (.slice a 1 c) 1 (lfF (fun _ => ⟨1,erH k⟩))→Calls Tryz.prog 55 #[.slice a 1 c] w fun e w' => e = .returned (.string (erR k))∧Below w.heap.size w w'):=fun a c B w h => l10Tree_any 1 a c (erL k) (by omega) h.slp.le h.slp.mx (fun i _ => erL_ok k i) w h.els
 have F0:Hid (RtF w sg pg (erT k)):=h
 generalize erR k = RK at *
 generalize erH k = HK at *
 generalize erT k = TK at *
 clear h
 go_enter Tryz.func37,Tryz.ntmps37
 go_wp2
 go_loopw [5,6] (fun s i wr => RtI w wr HK s i) (fun _ i _ => 1 - (intOf i).toNat)
 case atStart => exact ⟨(Below.refl _ _).alloc (Nat.le_refl _) _,.inl ⟨rfl,rfl,EO.lit _ _ _ _ (Nat.le_refl _) _⟩⟩
 case round =>
  obtain ⟨hb,⟨rfl,rfl,he⟩ | ⟨rfl,a,c,rfl,he⟩⟩:=hrel
  ·have HB:Hid (Below w.heap.size w wr):=hb
   have EA:Hid (EO wr w.heap.size 106 2 (.slice (some ⟨w.heap.size,0,none⟩) 0 0) 0 (lfF (fun _ => ⟨1,HK⟩))):=he
   clear hb he TR
   go_wp2_with fail
   have hb:Below wr.heap.size wr wr.drew:=(Below.refl _ _).drew
   replace EA:=hid (EA.out.below hb)
   replace HB:=hid (HB.out.trans (hb.mono HB.out.size))
   clear hb
   have H:Below w.heap.size w wr.drew:=HB.out
   refine wp_region_noPanic ?_
   refine wp_region_held_drew (S:=fun w' => Below w.heap.size w w') (by kernel_rfl) H (fun _ => ?_)
   generalize wr.drew = y0 at *
   refine tkH (i:=0) (v:=.slice (some ⟨w.heap.size,0,none⟩) 0 0) rfl (by kernel_rfl) (by rfl) ?_ H ?_
   ·intro w' hSw; go_simp
   refine ch36 ?_
   refine tkH (i:=1) (v:=.slice (some ⟨pg,0,none⟩) 1 pc) rfl (by kernel_rfl) (by rfl) ?_ H ?_
   ·intro w' hSw; go_simp
   refine ch36 ?_
   refine tkH (i:=2) (v:=.int .i64 0) rfl (by kernel_rfl) (by rfl) ?_ H ?_
   ·intro w' hSw; go_simp
   refine ch36 ?_
   refine tkH (i:=3) (v:=.pointer (some ⟨pg,0,none⟩)) rfl (by kernel_rfl) (by rfl) ?_ H ?_
   ·intro w' hSw; go_simp
   refine ch36 ?_
   refine tkH (i:=4) (v:=.pointer (some ⟨pg,1,none⟩)) rfl (by kernel_rfl) (by rfl) ?_ H ?_
   ·intro w' hSw; go_simp
   refine ch36 ?_
   refine tkH (i:=5) (v:=.int .i64 1) rfl (by kernel_rfl) (by rfl) ?_ H ?_
   ·intro w' hSw; have t0:=(F0.out.below hSw).2.2.2; clear hSw; go_simp
   refine ch36 ?_
   refine tkH (i:=6) (v:=.int .i64 0) rfl (by kernel_rfl) (by rfl) ?_ H ?_
   ·intro w' hSw; go_simp
   refine ch36 ?_
   refine tkH (i:=7) (v:=.slice (some ⟨pg,0,none⟩) 1 pc) rfl (by kernel_rfl) (by rfl) ?_ H ?_
   ·intro w' hSw; go_simp
   refine ch36 ?_
   refine tkH (i:=8) (v:=.int .i64 0) rfl (by kernel_rfl) (by rfl) ?_ H ?_
   ·intro w' hSw; go_simp
   refine ch36 ?_
   refine tkH (i:=9) (v:=.pointer (some ⟨pg,0,none⟩)) rfl (by kernel_rfl) (by rfl) ?_ H ?_
   ·intro w' hSw; go_simp
   refine ch36 ?_
   refine tkH (i:=10) (v:=.pointer (some ⟨pg,1,none⟩)) rfl (by kernel_rfl) (by rfl) ?_ H ?_
   ·intro w' hSw; go_simp
   refine ch36 ?_
   refine tkH (i:=11) (v:=.int .i64 1) rfl (by kernel_rfl) (by rfl) ?_ H ?_
   ·intro w' hSw; have t0:=(F0.out.below hSw).2.2.2; clear hSw; go_simp
   refine ch36 ?_
   refine tkH (i:=12) (v:=.slice (some ⟨sg,0,none⟩) 1 sc) rfl (by kernel_rfl) (by rfl) ?_ H ?_
   ·intro w' hSw; go_simp
   refine ch36 ?_
   refine tkH (i:=13) (v:=.int .i64 0) rfl (by kernel_rfl) (by rfl) ?_ H ?_
   ·intro w' hSw; go_simp
   refine ch36 ?_
   refine tkH (i:=14) (v:=.pointer (some ⟨sg,0,none⟩)) rfl (by kernel_rfl) (by rfl) ?_ H ?_
   ·intro w' hSw; go_simp
   refine ch36 ?_
   refine tkH (i:=15) (v:=.string TK) rfl (by kernel_rfl) (by rfl) ?_ H ?_
   ·intro w' hSw; have t0:=(F0.out.below hSw).1.2; clear hSw; go_simp
   refine ch36 ?_
   refine rdH (i:=16) (by kernel_rfl) rfl (fun KK hK => ?_)
   go_simp
   refine (SU.out _).mono ?_
   rintro e y1 ⟨rfl,hb⟩
   replace EA:=hid (EA.out.below hb)
   replace H:=H.trans (hb.mono H.size)
   clear hb
   refine hK.out _ _ H (fun _ => ?_)
   clear hK KK
   refine ch36 ?_
   refine tkH (i:=17) (v:=.agg #[.int .i64 1,.string HK]) rfl (by kernel_rfl) (by rfl) ?_ H ?_
   ·intro w' hSw; go_simp
   refine ch36 ?_
   apply tg0
   rotate_left
   exact trivial
   case' q0 =>
    refine rdH (i:=18) (by kernel_rfl) rfl (fun KK hK => ?_)
    have hb:Below y1.heap.size y1 (y1.alloc (.cells #[.int .i64 1,.string HK] 106)):=(Below.refl _ _).alloc (Nat.le_refl _) _
    have CX:Hid (∀ j,j < 2→(y1.alloc (.cells #[.int .i64 1,.string HK] 106)).cell? ⟨y1.heap.size,0 + j,none⟩ = some (lfV ⟨1,HK⟩ j)):=lfCells y1 HK
    go_simp
    replace H:=H.alloc H.size (.cells #[.int .i64 1,.string HK] 106)
    replace EA:=hid (EA.out.below hb)
    generalize (y1.alloc (.cells #[.int .i64 1,.string HK] 106)) = y2 at *
    generalize y1.heap.size = qb at *
    clear hb
    refine hK.out _ _ H (fun _ => ?_)
    clear hK KK
    refine ch36 ?_
   case' q0 =>
    refine rdH (i:=19) (by kernel_rfl) rfl (fun KK hK => ?_)
    obtain ⟨v9,y3,hr,he,hg⟩:=appLfE y2 w.heap.size _ 0 qb (fun _ => ⟨1,HK⟩) ⟨1,HK⟩ H.size (by omega) EA.out CX.out
    rw [if_pos (by rfl)]
    refine Lib.wp_append_run _ (.tmp 14) (.tmp 32) 103 103 rfl _ _ rfl rfl _ _ (hr _) ?_
    have E9:Hid (EO y3 w.heap.size 106 2 v9 1 (lfF (fun _ => ⟨1,HK⟩))):=EO.congr he (fun i hi j hj => by unfold lfF updE; split <;> rfl)
    have hgb:Below w.heap.size y2 y3:=(Below.refl _ _).grown hg H.size (fun k hk => by cases hk; exact Nat.le_refl _)
    replace H:=H.trans hgb
    obtain ⟨a9,c9,rfl⟩:=E9.out.form
    clear hr he hg hgb CX EA
    refine hK.out _ _ H (fun _ => ?_)
    clear hK KK
    refine ch36 ?_
    refine tkH (i:=20) (v:=.slice a9 1 c9) rfl (by kernel_rfl) (by rfl) ?_ H ?_
    ·intro w' hSw; go_simp
    refine ch36 ?_
   case' q0 =>
    refine wpAnyH_done (by kernel_rfl) ?_ _
    refine NoPanic.normal ?_
    have HB:Hid (Below w.heap.size w y3):=H
    clear H
    go_wp2
    exact ⟨⟨HB.out,.inr ⟨rfl,a9,c9,rfl,E9.out⟩⟩,by simp [intOf]⟩
  ·have HB:Hid (Below w.heap.size w wr):=hb
   have EA:Hid (EO wr w.heap.size 106 2 (.slice a 1 c) 1 (lfF (fun _ => ⟨1,HK⟩))):=he
   clear hb he SU
   go_wp2_with fail
   refine (TR.out a c _ wr EA.out).mono ?_
   rintro e v ⟨rfl,hb⟩
   replace HB:=hid (HB.out.trans (hb.mono HB.out.size))
   clear hb EA TR
   go_wp2
   go_ret
   exact ⟨rfl,HB.out⟩
end Go.Proofs.YtcpjeopnhgoonaaGreatDoor
