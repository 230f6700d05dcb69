/-
  Texts of the proof, joined.
-/
import Derived.Deep.RegionHeldLaw
import Derived.Test.YtcpjeopnhgoonaaGreatDoorF16
import Derived.Laws.AppendOwnNone
import Derived.Test.YtcpjeopnhgoonaaGreatDoorF07
import Derived.ArgAppend
import Derived.Lib.AppendStr
import Derived.Laws.IdiomStrings
import Derived.Laws.ResultCell
namespace Go.Proofs.YtcpjeopnhgoonaaGreatDoor
open Go.ChangeShapes Go.WideShapes Go.ChangeAt Go.RowKit
set_option linter.unusedVariables false
theorem in_any (x a b:Int) (r:Bool) (hr:r = decide (a≤x∧x≤b)) (w:World) :
  Calls Tryz.prog 9 #[.int .i64 x,.int .i64 a,.int .i64 b] w fun e w' => e = .returned (.bool r)∧w = w':=by
 by_cases h1:a≤x
 ·by_cases h2:x≤b
  ·obtain rfl:r = true:=by rw [hr]; simp; omega
   clear hr
   go_enter Tryz.func9,Tryz.ntmps9
   go_wp2
   go_ret
   exact ⟨rfl,rfl⟩
  ·obtain rfl:r = false:=by rw [hr]; simp; omega
   clear hr
   go_enter Tryz.func9,Tryz.ntmps9
   go_wp2
   go_ret
   exact ⟨rfl,rfl⟩
 ·obtain rfl:r = false:=by rw [hr]; simp; omega
  clear hr
  go_enter Tryz.func9,Tryz.ntmps9
  go_wp2
  go_ret
  exact ⟨rfl,rfl⟩
theorem kstr_of_code {w:World} {b o n c:Nat} {f:Nat→Nat} (h:Code8 w (some ⟨b,o,none⟩) n f):(convert 68 9 (.slice (some ⟨b,o,none⟩) n c)).run Tryz.prog w = .ok (.string (kstr f 0 n)) w:=by
 refine run_convert_bytes_arg w 68 5 Tryz.underlying68 Tryz.underlying5 b o n c ((List.range n).map fun i => ((f (0 + i):Nat):Int)) (by simp) (fun i hi => ?_) 9 Tryz.underlying9
 rw [h.at hi]
 simp [hi]
end Go.Proofs.YtcpjeopnhgoonaaGreatDoor
namespace Go.Proofs.YtcpjeopnhgoonaaGreatDoor
theorem wpAnyH_strong {P:Program} {md:Region.Mode} {ops:Array Oper} {Q:Exit→Act→World→Prop} {S S':World→Prop} (hS:∀ w,S' w→S w) :
  ∀ (fuel:Nat) (listed:Array Bool) (a:Act) (w:World),wpAnyH P md ops Q S' fuel listed a w→wpAnyH P md ops Q S fuel listed a w
 | 0,_,_,_,h => h
 | fuel + 1,_,_,_,h => ⟨h.1,fun i hi => wpOp_mono (fun a' w' h' => ⟨hS _ h'.1,wpAnyH_strong hS fuel _ a' w' h'.2⟩) (h.2 i hi)⟩
end Go.Proofs.YtcpjeopnhgoonaaGreatDoor
namespace Go.Proofs.YtcpjeopnhgoonaaGreatDoor
open Go.ChangeShapes Go.WideShapes Go.ChangeAt Go.RowKit
set_option linter.unusedVariables false
def catN (ns:Nat→Nat):Nat→Nat
 | 0 => 0
 | k + 1 => catN ns k + ns k
def catF (ns:Nat→Nat) (fs:Nat→Nat→Nat):Nat→Nat→Nat
 | 0 => fun _ => 0
 | k + 1 => Sha.cat (catN ns k) (catF ns fs k) (fs k)
theorem catN_mono (ns:Nat→Nat) {k m:Nat} (h:k≤m):catN ns k≤catN ns m:=by
 induction m with
 | zero => rw [Nat.le_zero.1 h]; exact Nat.le_refl _
 | succ m ih =>
  rcases Nat.lt_or_ge m k with g | g
  ·rw [show k = m + 1 from by omega]; exact Nat.le_refl _
  ·exact Nat.le_trans (ih g) (Nat.le_add_right _ _)
structure Parts (w:World) (sb m:Nat) (ads:Nat→Option Addr) (ns cs:Nat→Nat) (fs:Nat→Nat→Nat):Prop where
 cell:∀ k,k < m→w.cell? ⟨sb,k,none⟩ = some (.slice (ads k) (ns k) (cs k))
 code:∀ k,k < m→Code8 w (ads k) (ns k) (fs k)
 nil:∀ k,k < m→(ads k = none∧ns k = 0∧cs k = 0)∨∃ b o,ads k = some ⟨b,o,none⟩
theorem Parts.belowAt {w w':World} {B sb m:Nat} {ads:Nat→Option Addr} {ns cs:Nat→Nat} {fs:Nat→Nat→Nat} (h:Parts w sb m ads ns cs fs) (hB:w.heap.size≤B) (hb:Below B w w'):Parts w' sb m ads ns cs fs :=
 ⟨fun k hk => by rw [(hb.mono hB).cell (p:=⟨sb,k,none⟩) (strBlock (h.cell k hk))]; exact h.cell k hk,fun k hk => (h.code k hk).below (hb.mono hB),h.nil⟩
set_option maxRecDepth 100000 in
set_option maxHeartbeats 2000000 in
theorem concatN_any (sb m:Nat) (ads:Nat→Option Addr) (ns cs:Nat→Nat) (fs:Nat→Nat→Nat) (hmm:m≤1000) (h1:1≤catN ns m) (h2:catN ns m≤2000000) (w:World) (h:Parts w sb m ads ns cs fs) :
  Calls Tryz.prog 190 #[.slice (some ⟨sb,0,none⟩) m m] w fun e w' => RetO w.heap.size w' e (catN ns m) (catF ns fs m)∧Below w.heap.size w w':=by
 obtain ⟨i0,hi⟩:=info_parts Tryz.info8
 have HI:Hid (Tryz.prog.info? 5 = some i0∧i0.zero = some (.int .u8 0)∧i0.size = 1∧i0.bytes = 1):=hi
 have GN:Hid (∀ w:World,Calls Tryz.prog 210 #[.slice none 0 0,.int .i64 ((catN ns m:Nat):Int)] w fun e w' => (∃ b c,w.heap.size≤b∧e = .returned (.slice (some ⟨b,0,none⟩) 0 c)∧w'.ownsRow w.heap.size 5 1 (.slice (some ⟨b,0,none⟩) 0 c) 0 [])∧Below w.heap.size w w'):=grow_nil (catN ns m) h1 h2
 have HP:Hid (Parts w sb m ads ns cs fs):=h
 clear h hi
 go_enter Tryz.func190,Tryz.ntmps190
 go_wp2
 go_loop [3,5,11] (fun s _ i => ∃ k:Nat,k≤m∧i = .int .i64 k∧s = .int .i64 ((catN ns k:Nat):Int)) (fun _ _ i => m - (intOf i).toNat)
 case atStart => exact ⟨0,by omega,rfl,rfl⟩
 case round =>
  obtain ⟨k,hk,rfl,rfl⟩:=hrel
  by_cases hlt:k < m
  ·have hlt':(k:Int) < (m:Int):=by omega
   have c1:=HP.out.cell k hlt
   have hm:=catN_mono ns (show k + 1≤m by omega)
   have eN:Hid (((catN ns (k + 1):Nat):Int) = ((catN ns k:Nat):Int) + ((ns k:Nat):Int)):=by show ((catN ns k + ns k:Nat):Int) = _; omega
   have x0:¬ ((catN ns k:Nat):Int) + ((ns k:Nat):Int) < 0:=by omega
   have x1:((catN ns k:Nat):Int) + ((ns k:Nat):Int)≤2000000:=by have:=eN.out; omega
   generalize hN0:catN ns k = N0 at *
   generalize ns k = n0 at *
   clear hm hN0
   go_wp2
   go_round
   case rel => exact ⟨k + 1,by omega,by go_num,numEq8 eN.out.symm⟩
   case measure => simp [intOf]; omega
  ·obtain rfl:k = m:=by omega
   have hlt':¬ (k:Int) < (k:Int):=by omega
   go_wp2_with fail
   refine (GN.out _).mono ?_
   rintro e w1 ⟨⟨b,c,hb,rfl,hown⟩,hB⟩
   have HO:Hid (w1.ownsRow w.heap.size 5 1 (.slice (some ⟨b,0,none⟩) 0 c) 0 []):=hown
   have HB1:Hid (Below w.heap.size w w1):=hB
   clear hown hB hlt hlt' GN hk
   go_wp2_with fail
   go_loopw [6,8,27] (fun s _ i wr => ∃ q g c:Nat,q≤k∧i = .int .i64 q∧s = .slice (some ⟨g,0,none⟩) (catN ns q) c∧wr.ownsRow w.heap.size 5 1 (.slice (some ⟨g,0,none⟩) (catN ns q) c) (catN ns q) (bv (catN ns q) (catF ns fs q))∧Below w.heap.size w wr) (fun _ _ i _ => k - (intOf i).toNat)
   case atStart => exact ⟨0,b,c,by omega,rfl,rfl,HO.out,HB1.out⟩
   case round =>
    clear HO HB1
    obtain ⟨q,g,c,hq,rfl,rfl,hown,hb⟩:=hrel
    have HO:Hid (wr.ownsRow w.heap.size 5 1 (.slice (some ⟨g,0,none⟩) (catN ns q) c) (catN ns q) (bv (catN ns q) (catF ns fs q))):=hown
    have HB:Hid (Below w.heap.size w wr):=hb
    have PW:Parts wr sb k ads ns cs fs:=HP.out.belowAt (Nat.le_refl _) hb
    clear hown hb
    by_cases hlt:q < k
    ·have hlt':(q:Int) < (k:Int):=by omega
     have c1:=PW.cell q hlt
     have HM:Hid (catN ns q + ns q≤2000000):=Nat.le_trans (catN_mono ns (show q + 1≤k by omega)) h2
     have HQ:Hid (Code8 wr (ads q) (ns q) (fs q)):=PW.code q hlt
     have hsz:=HB.out.size
     have EF:Hid (bv (catN ns q) (catF ns fs q) ++ bv (ns q) (fs q) = bv (catN ns q + ns q) (catF ns fs (q + 1))):=bv_append _ _ _ _
     rcases PW.nil q hlt with ⟨e1,e2,e3⟩ | ⟨b',o',e1⟩
     ·rw [e1,e2,e3] at c1
      have HO':Hid (wr.ownsRow w.heap.size 5 1 (.slice (some ⟨g,0,none⟩) (catN ns q + ns q) c) (catN ns q + ns q) (bv (catN ns q + ns q) (catF ns fs (q + 1)))):=by
       have:=HO.out
       rw [← EF.out,e2]
       rw [bv_zero,List.append_nil]
       exact this
      have EE:Hid (catN ns q = catN ns q + ns q):=by show _ = _; omega
      clear PW e1 e2 e3
      have EG:Hid (catN ns (q + 1) = catN ns q + ns q):=rfl
      generalize hN0:catN ns q = N0 at *
      clear hN0
      go_wp2_with (at_builtin; refine wpList_append_own_none rfl _ _ 68 rfl w.heap.size 5 i0 1 Tryz.underlying68 HI.out.1 (.slice (some ⟨g,0,none⟩) N0 c) N0 _ rfl HO.out rfl ?_)
      go_roundw
      case rel =>
       refine ⟨q + 1,g,c,by omega,by go_num,?_,?_,HB.out⟩
       ·rw [EG.out,← EE.out]
       ·rw [EG.out]; exact HO'.out
      case measure => simp [intOf]; omega
     ·rw [e1] at c1 HQ
      have EG:Hid (catN ns (q + 1) = catN ns q + ns q):=rfl
      generalize hN0:catN ns q = N0 at *
      generalize hn0:ns q = n0 at *
      clear hN0 hn0 PW e1
      go_wp2_with (at_builtin; refine wpList_append_own _ rfl _ _ 68 rfl w.heap.size 5 i0 (.int .u8 0) 1 1 Tryz.underlying68 HI.out.1 HI.out.2.1 HI.out.2.2.1 HI.out.2.2.2 rfl (by decide) (.slice (some ⟨g,0,none⟩) N0 c) N0 _ rfl HO.out ⟨b',o',none⟩ n0 _ (bv n0 (fs q)) rfl (by rw [bv_length,Nat.mul_one]) (bv_news HQ.out) (bv_one _ _) (by have:=HM.out; unfold maxLen; omega) (by have:=HM.out; omega) hsz ?_)
      intro v' w2 hown' hgrow hnil
      have BG:Below w.heap.size wr w2:=grown_below HO.out hgrow hsz
      rw [EF.out] at hown'
      obtain ⟨g2,c2,⟨hg2,hc2⟩,rfl,-⟩:=own8_of_own hown' hnil
      have HO2:Hid (w2.ownsRow w.heap.size 5 1 (.slice (some ⟨g2,0,none⟩) (N0 + n0) c2) (N0 + n0) (bv (N0 + n0) (catF ns fs (q + 1)))):=hown'
      have HB2:Hid (Below w.heap.size w w2):=HB.out.trans BG
      clear hown' hgrow hnil HO HB BG
      go_wp2
      go_roundw
      case rel =>
       refine ⟨q + 1,g2,c2,by omega,by go_num,?_,?_,HB2.out⟩
       ·rw [EG.out]
       ·rw [EG.out]; exact HO2.out
      case measure => simp [intOf]; omega
    ·obtain rfl:q = k:=by omega
     have hlt':¬ (q:Int) < (q:Int):=by omega
     clear PW
     go_wp2
     go_ret
     exact ⟨⟨g,c,rfl,HO.out⟩,HB.out⟩
theorem cell3 (w:World) (x y z:Value) (t:TypeId) (k:Nat) (hk:k < 3):(w.alloc (.cells #[x,y,z] t)).cell? ⟨w.heap.size,k,none⟩ = some (if k = 0 then x else if k = 1 then y else z):=by
 rcases (show k = 0∨k = 1∨k = 2 by omega) with rfl | rfl | rfl <;> simp
set_option maxRecDepth 100000 in
set_option maxHeartbeats 2000000 in
theorem filledUp_any (b o n c:Nat) (f:Nat→Nat) (hn:n≤1200000) (w:World) (h:Code8 w (some ⟨b,o,none⟩) n f) :
  Calls Tryz.prog 151 #[.slice (some ⟨b,o,none⟩) n c] w fun e w' => RetO w.heap.size w' e (Sha.fullN n) (Sha.fullF n f)∧Below w.heap.size w w':=by
 obtain ⟨r,hr⟩:∃ r,r = n % 64:=⟨_,rfl⟩
 obtain ⟨z,hz⟩:∃ z,z = (119 - r) % 64:=⟨_,rfl⟩
 have e1:(n:Int) % 64 = (r:Int):=by omega
 have e1t:(n:Int).tmod 64 = (r:Int):=by rw [Int.tmod_eq_emod_of_nonneg (by omega)]; omega
 have e2:(119 - (r:Int)) % 64 = (z:Int):=by omega
 have e2t:(119 - (r:Int)).tmod 64 = (z:Int):=by rw [Int.tmod_eq_emod_of_nonneg (by omega)]; omega
 have hr64:r < 64:=by omega
 have hz64:z < 64:=by omega
 have HL:Hid (n + 1 + z + 8 = Sha.fullN n):=by show _ = _; unfold Sha.fullN; omega
 have m1:=mkBytes z (by omega)
 have HC:Hid (Code8 w (some ⟨b,o,none⟩) n f):=h
 obtain ⟨ns,hns⟩:∃ ns:Nat→Nat,ns = fun k => if k = 0 then n else if k = 1 then 1 else z:=⟨_,rfl⟩
 obtain ⟨fs,hfs⟩:∃ fs:Nat→Nat→Nat,fs = fun k => if k = 0 then f else if k = 1 then (fun _ => 128) else (fun _ => 0):=⟨_,rfl⟩
 have hN:catN ns 3 = n + 1 + z:=by rw [hns]; show 0 + n + 1 + z = _; omega
 have HF:Hid (∀ j,j < Sha.fullN n→numF (n + 1 + z) 8 (8 * n) (catF ns fs 3) j = Sha.fullF n f j):=fun j hj => by
  have hl:=HL.out
  unfold numF Sha.fullF
  by_cases h1:j < n + 1 + z
  ·rw [if_pos h1]
   rw [hns,hfs]
   show Sha.cat (0 + n + 1) (Sha.cat (0 + n) (Sha.cat 0 (fun _ => 0) f) (fun _ => 128)) (fun _ => 0) j = _
   unfold Sha.cat
   by_cases h2:j < n
   ·rw [if_pos (by omega),if_pos (by omega),if_neg (by omega),if_pos h2]; rfl
   ·rw [if_neg h2]
    by_cases h3:j = n
    ·rw [if_pos (by omega),if_neg (by omega),if_pos h3]
    ·rw [if_neg (by omega),if_neg h3,if_pos (by omega)]
  ·rw [if_neg h1,if_neg (by omega),if_neg (by omega),if_neg (by omega),← hl]
   rw [show 8 - 1 - (j - (n + 1 + z)) = n + 1 + z + 8 - 1 - j from by omega]
 have W3:Hid (∀ wa wb:World,Below w.heap.size w wa→wa.heap.size = w.heap.size + 1 + 1→Code8 wa (some ⟨w.heap.size,0,none⟩) 1 (fun _ => 128)→Code8 wa (some ⟨w.heap.size + 1,0,none⟩) z (fun _ => 0)→wb = wa.alloc (.cells #[.slice (some ⟨b,o,none⟩) n c,.slice (some ⟨w.heap.size,0,none⟩) 1 1,.slice (some ⟨w.heap.size + 1,0,none⟩) z z] 68) →
   Calls Tryz.prog 190 #[.slice (some ⟨w.heap.size + 1 + 1,0,none⟩) 3 3] wb fun e w' => RetO w.heap.size w' e (n + 1 + z) (catF ns fs 3)∧Below w.heap.size w w'):=fun wa wb hB hsz hk1 hk2 hwb => by
  have hA:Below wa.heap.size wa wb:=by rw [hwb]; exact (Below.refl _ _).alloc (Nat.le_refl _) _
  have P:Parts wb (w.heap.size + 1 + 1) 3 (fun k => if k = 0 then some ⟨b,o,none⟩ else if k = 1 then some ⟨w.heap.size,0,none⟩ else some ⟨w.heap.size + 1,0,none⟩) ns (fun k => if k = 0 then c else if k = 1 then 1 else z) fs:=by
   refine ⟨fun k hk => ?_,fun k hk => ?_,fun k hk => ?_⟩
   ·rw [hwb,← hsz,cell3 _ _ _ _ _ k hk,hns]
    rcases (show k = 0∨k = 1∨k = 2 by omega) with rfl | rfl | rfl <;> simp
   ·rw [hns,hfs]
    rcases (show k = 0∨k = 1∨k = 2 by omega) with rfl | rfl | rfl
    ·exact (HC.out.below hB).below hA
    ·exact hk1.below hA
    ·exact hk2.below hA
   ·rcases (show k = 0∨k = 1∨k = 2 by omega) with rfl | rfl | rfl
    ·exact .inr ⟨b,o,rfl⟩
    ·exact .inr ⟨_,0,rfl⟩
    ·exact .inr ⟨_,0,rfl⟩
  have:=concatN_any (w.heap.size + 1 + 1) 3 _ ns _ fs (by omega) (by omega) (by omega) wb P
  rw [hN] at this
  have hs:w.heap.size≤wb.heap.size:=Nat.le_trans hB.size hA.size
  refine this.mono ?_
  rintro e w' ⟨⟨g,cc,rfl,ho⟩,hb'⟩
  exact ⟨⟨g,cc,rfl,ownsRow_mono ho hs⟩,(hB.trans (hA.mono hB.size)).trans (hb'.mono hs)⟩
 have AN:Hid (∀ (g c:Nat) (w1:World),w.heap.size≤w1.heap.size→w1.ownsRow w.heap.size 5 1 (.slice (some ⟨g,0,none⟩) (n + 1 + z) c) (n + 1 + z) (bv (n + 1 + z) (catF ns fs 3))→Calls Tryz.prog 62 #[.slice (some ⟨g,0,none⟩) (n + 1 + z) c,.int .i64 ((8 * n:Nat):Int),.int .i64 8] w1 fun e w' => RetO w.heap.size w' e (Sha.fullN n) (Sha.fullF n f)∧Below w.heap.size w1 w'):=fun g c w1 hs ho => by
  have:=appendNumber_any w.heap.size g (n + 1 + z) c (8 * n) 8 (catF ns fs 3) (by omega) (by omega) w1 hs ho
  refine this.mono ?_
  rintro e w' ⟨⟨g',c',rfl,ho'⟩,hb'⟩
  rw [HL.out] at ho' ⊢
  rw [bv_congr HF.out] at ho'
  exact ⟨⟨g',c',rfl,ho'⟩,hb'⟩
 have KB:Hid (Below w.heap.size w ((w.alloc (.cells #[.int .u8 128] 5)).alloc (.cells (madeCells #[.int .u8 0] z) 5))):=((Below.refl _ _).alloc (Nat.le_refl _) _).alloc (by simp) _
 have K1:Hid (Code8 ((w.alloc (.cells #[.int .u8 128] 5)).alloc (.cells (madeCells #[.int .u8 0] z) 5)) (some ⟨w.heap.size,0,none⟩) 1 (fun _ => 128)):=Code8.below (fun i hi => ⟨_,0,rfl,by rw [show 0 + i = 0 from by omega]; simp⟩) ((Below.refl _ _).alloc (Nat.le_refl _) _)
 have K2:Hid (Code8 ((w.alloc (.cells #[.int .u8 128] 5)).alloc (.cells (madeCells #[.int .u8 0] z) 5)) (some ⟨w.heap.size + 1,0,none⟩) z (fun _ => 0)):=by
  have:=(World.rowIs_made (w.alloc (.cells #[.int .u8 128] 5)) (.int .u8 0) z 5)
  rw [show (w.alloc (.cells #[.int .u8 128] 5)).heap.size = w.heap.size + 1 from by simp] at this
  exact (Own8.ofRow (this.congr (fun j hj => rfl))).code
 have K3:Hid (((w.alloc (.cells #[.int .u8 128] 5)).alloc (.cells (madeCells #[.int .u8 0] z) 5)).heap.size = w.heap.size + 1 + 1):=by show _ = _; simp
 have e8:(8:Int) * (n:Int) = ((8 * n:Nat):Int):=by omega
 obtain ⟨n8,hn8⟩:∃ n8,n8 = 8 * n:=⟨_,rfl⟩
 rw [← hn8] at e8 AN
 have hn8':n8≤9600000:=by omega
 clear h HC HF HL hr hz hns hfs hN hn8
 go_enter Tryz.func151,Tryz.ntmps151
 go_wp2_with fail
 refine (W3.out _ _ KB.out K3.out K1.out K2.out rfl).mono ?_
 rintro e w1 ⟨⟨g,cc,rfl,ho⟩,hb1⟩
 have HO:Hid (w1.ownsRow w.heap.size 5 1 (.slice (some ⟨g,0,none⟩) (n + 1 + z) cc) (n + 1 + z) (bv (n + 1 + z) (catF ns fs 3))):=ho
 have HB1:Hid (Below w.heap.size w w1):=hb1
 clear ho hb1 W3 KB K1 K2 K3
 go_wp2_with fail
 refine (AN.out g cc w1 HB1.out.size HO.out).mono ?_
 rintro e w2 ⟨⟨g2,c2,rfl,ho2⟩,hb2⟩
 have HO2:Hid (w2.ownsRow w.heap.size 5 1 (.slice (some ⟨g2,0,none⟩) (Sha.fullN n) c2) (Sha.fullN n) (bv (Sha.fullN n) (Sha.fullF n f))):=ho2
 have HB2:Hid (Below w.heap.size w w2):=HB1.out.trans hb2
 clear ho2 hb2 HO HB1 AN
 go_wp2
 go_ret
 exact ⟨⟨g2,c2,rfl,HO2.out⟩,HB2.out⟩
theorem outB_num (v:Nat→Nat) (k j:Nat) (hj:j < 4 * k + 4):numF (4 * k) 4 (v k) (Sha.outB v) j = Sha.outB v j:=by
 unfold numF
 by_cases h:j < 4 * k
 ·rw [if_pos h]
 ·rw [if_neg h]
  unfold Sha.outB
  rw [show j / 4 = k from by omega,show 24 - 8 * (j % 4) = 8 * (4 - 1 - (j - 4 * k)) from by omega]
theorem idxDg {f:Nat→Nat} {k:Nat} (h:k < 8) (w:World):(Instr.index 212 (.agg (wA 8 f)) (.int .i64 (k:Int))).run Tryz.prog w = .ok (.int .u32 (f k:Nat)) w :=
 run_index_flat Tryz.underlying212 Tryz.underlying177 rfl (by kernel_rfl) h (wA_at h) w
set_option maxRecDepth 100000 in
set_option maxHeartbeats 2000000 in
theorem text_any (v:Nat→Nat) (hv:∀ j,v j < 4294967296) (w:World) :
  Calls Tryz.prog 153 #[.agg (wA 8 v)] w fun e w' => e = .returned (.string (kstr (Sha.outB v) 0 32))∧Below w.heap.size w w':=by
 have HV:Hid (∀ j,v j < 4294967296):=hv
 have IX:Hid (∀ (k:Nat) (w:World),k < 8→(Instr.index 212 (.agg (wA 8 v)) (.int .i64 (k:Int))).run Tryz.prog w = .ok (.int .u32 ((v k:Nat):Int)) w):=fun k w hk => idxDg hk w
 have AN:Hid (∀ (g c k:Nat) (w1:World),k < 8→w.heap.size + 1≤w1.heap.size→w1.ownsRow (w.heap.size + 1) 5 1 (.slice (some ⟨g,0,none⟩) (4 * k) c) (4 * k) (bv (4 * k) (Sha.outB v))→Calls Tryz.prog 62 #[.slice (some ⟨g,0,none⟩) (4 * k) c,.int .i64 ((v k:Nat):Int),.int .i64 4] w1 fun e w' => RetO (w.heap.size + 1) w' e (4 * k + 4) (Sha.outB v)∧Below (w.heap.size + 1) w1 w'):=fun g c k w1 hk hs ho => by
  refine (appendNumber_any (w.heap.size + 1) g (4 * k) c (v k) 4 (Sha.outB v) (by omega) (by omega) w1 hs ho).mono ?_
  rintro e w' ⟨⟨g',c',rfl,ho'⟩,hb'⟩
  rw [bv_congr (g:=Sha.outB v) (fun j hj => outB_num v k j hj)] at ho'
  exact ⟨⟨g',c',rfl,ho'⟩,hb'⟩
 have R0:Hid (RowW (w.alloc (.cells (wA 8 v) 212)) w.heap.size 212 8 v):=RowW.boxedAt rfl _ _ _
 have EA:Hid ((wv 8 v).toArray = wA 8 v):=rfl
 clear hv
 generalize wA 8 v = VA at *
 go_enter Tryz.func153,Tryz.ntmps153
 obtain ⟨wm,hmk,hown,hBm⟩:=mkRoom 32 (by omega) (w.alloc (.cells VA 212))
 replace hmk:(Instr.makeSlice 68 (.int .i64 0) (.int .i64 32)).run Tryz.prog (w.alloc (.cells VA 212)) = .ok (.slice (some ⟨w.heap.size + 1,0,none⟩) 0 32) wm:=by
  have e:(w.alloc (.cells VA 212)).heap.size = w.heap.size + 1:=by simp
  rw [e] at hmk; exact hmk
 have e1:(w.alloc (.cells VA 212)).heap.size = w.heap.size + 1:=by simp
 rw [e1] at hown
 have HO:Hid (wm.ownsRow (w.heap.size + 1) 5 1 (.slice (some ⟨w.heap.size + 1,0,none⟩) 0 32) 0 []):=hown
 have R1:Hid (RowW wm w.heap.size 212 8 v):=R0.out.below hBm
 have HB1:Hid (Below w.heap.size w wm):=((Below.refl _ _).alloc (Nat.le_refl _) _).trans (hBm.mono (by rw [e1]; omega))
 have HS:Hid (w.heap.size + 1≤wm.heap.size):=by have:=hBm.size; rw [e1] at this; exact this
 clear hown hBm e1 R0
 go_wp2_with (refine wpList_load_mid rfl 212 (.tmp 1) rfl w.heap.size 0 rfl (wv 8 v) _ R1.out.range Tryz.underlying212 rfl (by rw [wv_length]; exact Tryz.size8w) ?_)
 rw [EA.out]
 clear EA R1 hmk
 go_loopw [3,5,8] (fun s _ i wr => ∃ k g c:Nat,k≤8∧i = .int .i64 k∧s = .slice (some ⟨g,0,none⟩) (4 * k) c∧wr.ownsRow (w.heap.size + 1) 5 1 (.slice (some ⟨g,0,none⟩) (4 * k) c) (4 * k) (bv (4 * k) (Sha.outB v))∧Below w.heap.size w wr∧w.heap.size + 1≤wr.heap.size) (fun _ _ i _ => 8 - (intOf i).toNat)
 case atStart => exact ⟨0,_,_,by omega,rfl,rfl,HO.out,HB1.out,HS.out⟩
 case round =>
  clear HO HB1 HS
  obtain ⟨k,g,c,hk,rfl,rfl,hown,hb,hs⟩:=hrel
  have HO:Hid (wr.ownsRow (w.heap.size + 1) 5 1 (.slice (some ⟨g,0,none⟩) (4 * k) c) (4 * k) (bv (4 * k) (Sha.outB v))):=hown
  have HB:Hid (Below w.heap.size w wr):=hb
  have HS:Hid (w.heap.size + 1≤wr.heap.size):=hs
  clear hown hb hs
  by_cases hlt:k < 8
  ·have hlt':(k:Int) < 8:=by omega
   have ix:∀ w:World,(Instr.index 212 (.agg VA) (.int .i64 (k:Int))).run Tryz.prog w = .ok (.int .u32 ((v k:Nat):Int)) w:=fun w => IX.out k w hlt
   have hvk:IntKind.i64.wrap ((v k:Nat):Int) = ((v k:Nat):Int):=by rw [IntKind.wrap_i64]; have:=HV.out k; omega
   have AK:Hid (Calls Tryz.prog 62 #[.slice (some ⟨g,0,none⟩) (4 * k) c,.int .i64 ((v k:Nat):Int),.int .i64 4] wr fun e w' => RetO (w.heap.size + 1) w' e (4 * k + 4) (Sha.outB v)∧Below (w.heap.size + 1) wr w'):=AN.out g c k wr hlt HS.out HO.out
   generalize v k = vk at *
   go_wp2_with fail
   refine AK.out.mono ?_
   rintro e w1 ⟨⟨g2,c2,rfl,ho2⟩,hb2⟩
   have HO2:Hid (w1.ownsRow (w.heap.size + 1) 5 1 (.slice (some ⟨g2,0,none⟩) (4 * (k + 1)) c2) (4 * (k + 1)) (bv (4 * (k + 1)) (Sha.outB v))):=ho2
   have HB2:Hid (Below w.heap.size w w1):=HB.out.trans (hb2.mono (by omega))
   have HS2:Hid (w.heap.size + 1≤w1.heap.size):=Nat.le_trans HS.out hb2.size
   clear ho2 hb2 HO HB HS AK
   go_wp2
   go_roundw
   case rel => exact ⟨k + 1,g2,c2,by omega,by go_num,rfl,HO2.out,HB2.out,HS2.out⟩
   case measure => simp [intOf]; omega
  ·obtain rfl:k = 8:=by omega
   obtain ⟨g',c',hgc,e',ho⟩:=own8_of_own HO.out (by intro h; cases h)
   cases e'
   have cv:=kstr_of_code (c:=c) ho.code
   generalize hT:kstr (Sha.outB v) 0 (4 * 8) = T at cv
   have HT:Hid (kstr (Sha.outB v) 0 32 = T):=hT
   clear ho HO hT
   go_wp2
   go_ret
   exact ⟨by rw [HT.out]; rfl,HB.out⟩
def hashS (n:Nat) (f:Nat→Nat):ByteArray:=kstr (Sha.hash n f) 0 32
theorem hashS_size (n:Nat) (f:Nat→Nat):(hashS n f).size = 32:=kstr_size _ _ _
def lenH:Value→Nat
 | .slice _ n _ => n
 | _ => 0
def HSt (w0 w':World) (sb g L:Nat) (F v:Nat→Nat):Prop:=RowW w' sb 212 8 v∧Own8 w' g L F∧Below w0.heap.size w0 w'
theorem HSt.below {w0 w' w'':World} {sb g L:Nat} {F v:Nat→Nat} (h:HSt w0 w' sb g L F v) (hb:Below w'.heap.size w' w''):HSt w0 w'' sb g L F v:=⟨h.1.below hb,h.2.1.below hb,h.2.2.trans (hb.mono h.2.2.size)⟩
theorem HSt.drew {w0 w':World} {sb g L:Nat} {F v:Nat→Nat} (h:HSt w0 w' sb g L F v):HSt w0 w'.drew sb g L F v:=⟨h.1,h.2.1,h.2.2.drew⟩
theorem onlyB_setCellsH {b:Nat} {a:World} (vs:List Value):∀ (o:Nat) (w:World),OnlyB b a w→OnlyB b a (w.setCells b o vs):=by
 induction vs with
 | nil => intro o w h; exact h
 | cons v vs ih => intro o w h; exact ih (o + 1) _ (h.setCell o v)
theorem HSt.store {w0 w':World} {sb g L:Nat} {F v:Nat→Nat} (h:HSt w0 w' sb g L F v) (h1:g≠sb) (h2:w0.heap.size≤sb) (v':Nat→Nat):HSt w0 (w'.setCells sb 0 (wv 8 v')) sb g L F v':=by
 have X1:OnlyB sb w' (w'.setCells sb 0 (wv 8 v')):=onlyB_setCellsH _ _ _ (OnlyB.refl _ _)
 exact ⟨h.1.stored v',h.2.1.onlyB X1 h1,below_setCells h2 _ _ _ h.2.2⟩
set_option maxRecDepth 100000 in
set_option maxHeartbeats 4000000 in
theorem hashed_any (b o n c:Nat) (f:Nat→Nat) (hf:∀ i,f i < 256) (hn:n≤1200000) (w:World) (h:Code8 w (some ⟨b,o,none⟩) n f) (ht:Tabs w) :
  Calls Tryz.prog 103 #[.slice (some ⟨b,o,none⟩) n c] w fun e w' => e = .returned (.string (hashS n f))∧Below w.heap.size w w':=by
 obtain ⟨L,hL⟩:∃ L,L = Sha.fullN n:=⟨_,rfl⟩
 obtain ⟨F,hF⟩:∃ F,F = Sha.fullF n f:=⟨_,rfl⟩
 obtain ⟨m,hm⟩:∃ m,m = Sha.fullN n / 64:=⟨_,rfl⟩
 have hLm:L = 64 * m:=by rw [hL,hm]; unfold Sha.fullN; omega
 have HLm:Hid (L = 64 * m):=hLm
 have lF:∀ j,F j < 256:=fun j => by rw [hF]; exact Sha.fullF_lt hf j
 have HH:Hid (hashS n f = kstr (Sha.outB (Sha.hashTo F m)) 0 32):=by show _ = _; rw [hF,hm]; rfl
 have FU:Hid (∀ w:World,Code8 w (some ⟨b,o,none⟩) n f→Calls Tryz.prog 151 #[.slice (some ⟨b,o,none⟩) n c] w fun e w' => RetO w.heap.size w' e L F∧Below w.heap.size w w'):=fun w h => by rw [hL,hF]; exact filledUp_any b o n c f hn w h
 have AF:Hid (∀ (i g cr:Nat) (w:World),64≤cr→Code8 w (some ⟨g,64 * i,none⟩) 64 (fun j => F (64 * i + j))→Tabs w→Calls Tryz.prog 152 #[.agg (wA 8 (Sha.hashTo F i)),.slice (some ⟨g,64 * i,none⟩) 64 cr] w fun e w' => e = .returned (.agg (wA 8 (Sha.hashTo F (i + 1))))∧Below w.heap.size w w'):=fun i g cr w hc h ht => after_any (Sha.hashTo F i) g (64 * i) 64 cr _ (fun j => lF _) (Nat.le_refl _) hc w h ht
 have TX:Hid (∀ w:World,Calls Tryz.prog 153 #[.agg (wA 8 (Sha.hashTo F m))] w fun e w' => e = .returned (.string (hashS n f))∧Below w.heap.size w w'):=fun w => by rw [HH.out]; exact text_any _ (Sha.hashTo_lt F m) w
 have HC:Hid (Code8 w (some ⟨b,o,none⟩) n f):=h
 have HT:Hid (Tabs w):=ht
 have TR:Hid (w.rangeAt 3 0 (wv 8 Sha.h0)):=fun j v hv => by
  have hj:j < 8:=by have:=(List.getElem?_eq_some_iff.1 hv).1; rwa [wv_length] at this
  rw [wv_at hj] at hv
  cases hv
  rw [Nat.zero_add]
  exact ht.1 j hj
 obtain ⟨D0,hD0⟩:∃ D,D = Sha.h0:=⟨_,rfl⟩
 have HD:Hid (Sha.hashTo F 0 = D0):=by rw [hD0]; rfl
 rw [← hD0] at TR
 have z1:=Tryz.zero8w
 have Z0:Hid (RowW (w.alloc (.cells (Array.replicate 8 (.int .u32 0)) 212)) w.heap.size 212 8 (fun _ => 0)):=RowW.zerosAt rfl _ _
 have EA:Hid ((wv 8 D0).toArray = wA 8 D0):=rfl
 have R1:Hid (RowW ((w.alloc (.cells (Array.replicate 8 (.int .u32 0)) 212)).setCells w.heap.size 0 (wv 8 D0)) w.heap.size 212 8 D0):=Z0.out.stored D0
 have B1:Hid (Below w.heap.size w ((w.alloc (.cells (Array.replicate 8 (.int .u32 0)) 212)).setCells w.heap.size 0 (wv 8 D0))):=below_setCells (Nat.le_refl _) _ _ _ ((Below.refl _ _).alloc (Nat.le_refl _) _)
 have S1:Hid (w.heap.size < ((w.alloc (.cells (Array.replicate 8 (.int .u32 0)) 212)).setCells w.heap.size 0 (wv 8 D0)).heap.size):=R1.out.lt
 generalize hashS n f = HS at *
 have hm':m≤40000:=by rw [hm]; unfold Sha.fullN; omega
 clear h hf ht hL hF hm HH hD0 hLm
 go_enter Tryz.func103,Tryz.ntmps103
 go_wp2_with (first
  | (refine wpList_load_mid rfl 212 (.global 3) rfl 3 0 rfl (wv 8 D0) _ TR.out Tryz.underlying212 rfl (by rw [wv_length]; exact Tryz.size8w) ?_)
  | (refine wpList_store_mid rfl 212 (.tmp 3) (.tmp 5) rfl w.heap.size 0 (wA 8 D0) rfl rfl (by rw [wA_size]; exact Z0.out.there) (by rw [wA_size]; exact Tryz.size8w) (wA_one _ _) ?_; rw [wA_toList]; generalize (w.alloc (.cells (Array.replicate 8 (.int .u32 0)) 212)).setCells w.heap.size 0 (wv 8 D0) = wf at *))
 generalize (wv 8 D0).toArray = junk at *
 refine (FU.out _ (HC.out.below B1.out)).mono ?_
 rintro e w1 ⟨⟨g,c1,rfl,hown⟩,hb1⟩
 obtain ⟨g',c',⟨hg,hmc⟩,e',ho⟩:=own8_of_own hown (by intro e; cases e)
 cases e'
 have hne:g≠w.heap.size:=by have:=S1.out; omega
 have HI:Hid (HSt w w1 w.heap.size g L F (Sha.hashTo F 0)):=⟨by rw [HD.out]; exact R1.out.below hb1,ho,B1.out.trans (hb1.mono B1.out.size)⟩
 clear hown ho hb1 R1 B1 S1 FU HC TR Z0 EA z1 HD
 go_wp2_with fail
 go_loopw [4] (fun s wr => ∃ (i cr:Nat) (ad:Option Addr),i≤m∧s = .slice ad (L - 64 * i) cr∧(i < m→ad = some ⟨g,64 * i,none⟩∧L - 64 * i≤cr)∧HSt w wr w.heap.size g L F (Sha.hashTo F i)) (fun s _ => lenH s)
 case atStart => exact ⟨0,c1,_,by omega,rfl,fun _ => ⟨rfl,by omega⟩,HI.out⟩
 case round =>
  clear HI
  obtain ⟨i,cr,ad,hi,rfl,had,hst⟩:=hrel
  by_cases hlt:i < m
  ·obtain ⟨rfl,hcr⟩:=had hlt
   clear had
   obtain ⟨R,hR⟩:∃ R,R = L - 64 * i:=⟨_,rfl⟩
   rw [← hR] at hcr
   have hLm:=HLm.out
   have HRe:Hid (R - 64 = L - 64 * (i + 1)):=by show _ = _; omega
   have HR0:Hid (R = L - 64 * i):=hR
   rw [← hR]
   have hR64:64≤R:=by omega
   have hRL:64 * i + 64≤L:=by omega
   clear hLm
   have x0:(0:Int) < (R:Int):=by omega
   have x1:(64:Int)≤(cr:Int):=by omega
   have x2:(64:Int)≤(R:Int):=by omega
   have AFi:Hid (∀ w':World,HSt w w' w.heap.size g L F (Sha.hashTo F i)→Calls Tryz.prog 152 #[.agg (wA 8 (Sha.hashTo F i)),.slice (some ⟨g,64 * i,none⟩) 64 cr] w' fun e w'' => e = .returned (.agg (wA 8 (Sha.hashTo F (i + 1))))∧Below w'.heap.size w' w''):=fun w' h => AF.out i g cr w' (by omega) (code8_of (fun j hj => by
    have:=h.2.1.cell (i:=64 * i + j) (by omega)
    exact this)) (HT.out.below h.2.2)
   have HST:Hid (HSt w wr w.heap.size g L F (Sha.hashTo F i)):=hst
   have EV:Hid ((wv 8 (Sha.hashTo F i)).toArray = wA 8 (Sha.hashTo F i)):=rfl
   generalize hV1:Sha.hashTo F (i + 1) = V1 at *
   have HV1:Hid (Sha.hashTo F (i + 1) = V1):=hV1
   clear hV1
   generalize Sha.hashTo F i = V0 at *
   clear hst hR AF
   go_upto_region 4 with fail
   have H:HSt w wr.drew w.heap.size g L F V0:=HST.out.drew
   clear HST
   refine wp_region_noPanic ?_
   refine wp_region_held_drew (S:=fun w' => Own8 w' g L F∧Below w.heap.size w w') (by kernel_rfl) H.2 (fun _ => ?_)
   refine wpAnyH_take (i:=1) (v:=.slice (some ⟨g,64 * i,none⟩) R cr) rfl (by kernel_rfl) (by kernel_rfl) (by kernel_rfl) (fun _ _ _ h => h) (Or.inl ⟨by rfl,?_⟩) H.2 ?_
   ·intro w hSw; go_simp
   refine ch19 ?_
   refine wpAnyH_take (i:=2) (v:=.slice (some ⟨g,64 * i,none⟩) 64 cr) rfl (by kernel_rfl) (by kernel_rfl) (by kernel_rfl) (fun _ _ _ h => h) (Or.inl ⟨by rfl,?_⟩) H.2 ?_
   ·intro w hSw; go_simp
   refine ch19 ?_
   refine wpAnyH_ready (rs:=[0]) (by kernel_rfl) (by simp) ?_
   refine AllReadyH.cons rfl (fun KK hK => ?_) AllReadyH.nil
   rw [if_pos (by rfl)]
   refine wp_load_mid 212 (.tmp 3) rfl w.heap.size 0 rfl (wv 8 V0) _ H.1.range Tryz.underlying212 rfl (by rw [wv_length]; exact Tryz.size8w) ?_
   refine hK.out _ _ H.2 (fun _ => ?_)
   clear hK KK
   rw [EV.out]
   refine ch19 ?_
   refine wpAnyH_ready (rs:=[3]) (by kernel_rfl) (by simp) ?_
   refine AllReadyH.cons rfl (fun KK hK => ?_) AllReadyH.nil
   go_simp
   refine (AFi.out _ H).mono ?_
   rintro e w2 ⟨rfl,hb2⟩
   replace H:=HSt.below H hb2
   refine hK.out _ _ H.2 (fun _ => ?_)
   clear hK KK hb2
   refine ch19 ?_
   refine wpAnyH_ready (rs:=[4]) (by kernel_rfl) (by simp) ?_
   refine AllReadyH.cons rfl (fun KK hK => ?_) AllReadyH.nil
   rw [if_pos (by rfl)]
   refine wp_store_mid 212 (.tmp 3) (.tmp 14) rfl w.heap.size 0 (wA 8 V1) rfl rfl (by rw [wA_size]; exact H.1.there) (by rw [wA_size]; exact Tryz.size8w) (wA_one _ _) ?_
   rw [wA_toList]
   replace H:=HSt.store H hne (Nat.le_refl _) V1
   refine hK.out _ _ H.2 (fun _ => ?_)
   clear hK KK
   refine wpAnyH_done (by kernel_rfl) ?_ _
   refine NoPanic.normal ?_
   change Exit.then _ _ Exit.normal { tmps:=#[_,_,_,_,_,_,_,_,_,_,_,_,_,_,_,_,_,_,_],defers:=[] } _
   have HS9:Hid (HSt w (w2.setCells w.heap.size 0 (wv 8 V1)) w.heap.size g L F V1):=H
   clear H AFi EV
   generalize (w2.setCells w.heap.size 0 (wv 8 V1)) = w9 at *
   generalize wA 8 V1 = q1
   generalize wA 8 V0 = q0
   by_cases hc64:cr = 64
   ·subst hc64
    go_wp2
    go_roundw
    case rel =>
     refine ⟨i + 1,0,some ⟨g,64 * i,none⟩,by omega,?_,fun h => ?_,by rw [HV1.out]; exact HS9.out⟩
     ·rw [← HRe.out,show R - 64 = 0 from by omega]
     ·exfalso; have:=HRe.out; have:=HLm.out; omega
    case measure => simp [lenH]; omega
   ·go_wp2
    go_roundw
    case rel =>
     refine ⟨i + 1,cr - 64,some ⟨g,64 * i + 64,none⟩,by omega,?_,fun h => ?_,by rw [HV1.out]; exact HS9.out⟩
     ·rw [← HRe.out]
     ·exact ⟨rfl,by have:=HRe.out; omega⟩
    case measure => simp [lenH]; omega
  ·obtain rfl:i = m:=by omega
   have eL:L - 64 * i = 0:=by have:=HLm.out; omega
   rw [eL]
   have HST:Hid (HSt w wr w.heap.size g L F (Sha.hashTo F i)):=hst
   have EV:Hid ((wv 8 (Sha.hashTo F i)).toArray = wA 8 (Sha.hashTo F i)):=rfl
   generalize Sha.hashTo F i = V0 at *
   clear hst had eL AF
   go_wp2_with (refine wpList_load_mid rfl 212 (.tmp 3) rfl w.heap.size 0 rfl (wv 8 V0) _ HST.out.1.range Tryz.underlying212 rfl (by rw [wv_length]; exact Tryz.size8w) ?_; rw [EV.out])
   refine (TX.out _).mono ?_
   rintro e w2 ⟨rfl,hb2⟩
   have HB2:Hid (Below w.heap.size w w2):=HST.out.2.2.trans (hb2.mono HST.out.2.2.size)
   clear hb2 HST EV TX
   generalize wA 8 V0 = q0
   go_wp2
   go_ret
   exact ⟨rfl,HB2.out⟩
def RowM (w:World) (g n cap:Nat) (F:Nat→Nat):Prop:=n≤cap∧(∀ i,i < n→w.cell? ⟨g,i,none⟩ = some (.int .u8 ((F i:Nat):Int)))∧(∀ i,i < cap→(w.cell? ⟨g,i,none⟩).isSome = true∧w.frozen? ⟨g,i,none⟩ = false)∧g < w.heap.size
theorem RowM.code {w:World} {g n cap:Nat} {F:Nat→Nat} (h:RowM w g n cap F):Code8 w (some ⟨g,0,none⟩) n F:=code8_of (fun i hi => by rw [Nat.zero_add]; exact h.2.1 i hi)
theorem RowM.below {w w':World} {g n cap:Nat} {F:Nat→Nat} (h:RowM w g n cap F) (hb:Below w.heap.size w w'):RowM w' g n cap F :=
 ⟨h.1,fun i hi => by rw [hb.cell (p:=⟨g,i,none⟩) h.2.2.2]; exact h.2.1 i hi,fun i hi => ⟨by rw [hb.cell (p:=⟨g,i,none⟩) h.2.2.2]; exact (h.2.2.1 i hi).1,by rw [hb.frozen (p:=⟨g,i,none⟩) h.2.2.2]; exact (h.2.2.1 i hi).2⟩,Nat.lt_of_lt_of_le h.2.2.2 hb.size⟩
theorem RowM.congr {w:World} {g n cap:Nat} {F G:Nat→Nat} (h:RowM w g n cap F) (e:∀ i,i < n→F i = G i):RowM w g n cap G:=⟨h.1,fun i hi => by rw [← e i hi]; exact h.2.1 i hi,h.2.2⟩
theorem bytesOfR (s:ByteArray) (w:World):∃ wz gc,(convert 9 68 (.string s)).run Tryz.prog w = .ok (.slice (some ⟨w.heap.size,0,none⟩) s.size gc) wz∧RowM wz w.heap.size s.size gc (strB s)∧Below w.heap.size w wz:=by
 obtain ⟨gc,hgc⟩:∃ gc,gc = grownCap w s.size 0 5:=⟨_,rfl⟩
 have hge:s.size≤gc:=by rw [hgc]; exact grownCap_ge _ _ _ _
 have hsz:(bytesRow s gc).size = gc:=by
  unfold bytesRow
  rw [Array.size_append,Array.size_map,Array.size_replicate]
  show s.size + (gc - s.size) = gc
  omega
 have hrun:=run_bytes_of_string w 9 68 5 s Tryz.underlying9 Tryz.underlying68 Tryz.underlying5
 rw [← hgc,hsz] at hrun
 refine ⟨_,gc,hrun,⟨hge,fun r hr => ?_,fun r hr => ⟨?_,?_⟩,?_⟩,(Below.refl _ _).drew.alloc (Nat.le_refl _) _⟩
 ·have e:=World.cell?_alloc_mark w.drew (bytesRow s gc) 5 (gc,gc + 1) r
  refine e.trans ?_
  rw [bytesRow_at s gc r hr]
  simp [strB,hr,ByteArray.getElem_eq_getElem_data]
 ·have e:=World.cell?_alloc_mark w.drew (bytesRow s gc) 5 (gc,gc + 1) r
  have e2:(w.drew.alloc (.cells (bytesRow s gc) 5 (gc,gc + 1))).cell? ⟨w.heap.size,r,none⟩ = (bytesRow s gc)[r]?:=e
  rw [e2,Array.getElem?_eq_getElem (by omega)]
  rfl
 ·show (w.drew.alloc (.cells (bytesRow s gc) 5 (gc,gc + 1))).frozen? ⟨w.drew.heap.size,r,none⟩ = false
  rw [World.frozen?_alloc_mark]
  simp
  intro h
  omega
 ·show w.heap.size < (w.drew.alloc _).heap.size
  simp
theorem appendM (w:World) (B g n cap:Nat) (F:Nat→Nat) (sb so m c:Nat) (f:Nat→Nat) (hB:B≤g) (hBw:B≤w.heap.size) (hnm:n + m≤2000000) (h:RowM w g n cap F) (hs:Code8 w (some ⟨sb,so,none⟩) m f) (ty:TypeId) :
  ∃ g' cap' w',(Builtin.append_ #[68,68] ty #[.slice (some ⟨g,0,none⟩) n cap,.slice (some ⟨sb,so,none⟩) m c]).run Tryz.prog w = .ok (.slice (some ⟨g',0,none⟩) (n + m) cap') w'∧RowM w' g' (n + m) cap' (Sha.cat n F f)∧Below B w w'∧B≤g':=by
 obtain ⟨i0,h1,h2,h3,h4⟩:=info_parts Tryz.info8
 by_cases hroom:n + m≤cap
 ·have hth:w.there g 0 cap:=fun j hj => by rw [Nat.zero_add]; exact h.2.2.1 j hj
  have hth2:=World.there_setCells hth g n (bv m f)
  have hin:(w.setCells g n (bv m f)).rangeAt g n (bv m f):=World.rangeAt_setCells_same w g n (bv m f) (fun j hj => by rw [bv_length] at hj; exact h.2.2.1 (n + j) (by omega))
  refine ⟨g,cap,w.setCells g n (bv m f),?_,⟨hroom,fun i hi => ?_,fun i hi => by have:=hth2 i hi; rwa [Nat.zero_add] at this,Nat.lt_of_lt_of_le h.2.2.2 (below_setCells hB (bv m f) n w (Below.refl B w)).size⟩,below_setCells hB _ _ _ (Below.refl _ _),hB⟩
  ·have:=run_append_room_cells (P:=Tryz.prog) w 68 ty 5 i0 Tryz.underlying68 h1 g 0 n cap ⟨sb,so,none⟩ m c (bv m f) (by rw [bv_length,h3,Nat.mul_one]) (bv_news hs) (bv_one _ _) hroom (fun j hj => by rw [bv_length] at hj; rw [h3,Nat.zero_add,Nat.mul_one]; exact (h.2.2.1 (n + j) (by omega)).1) (fun j hj => by rw [bv_length] at hj; rw [h3,Nat.zero_add,Nat.mul_one]; exact (h.2.2.1 (n + j) (by omega)).2)
   rw [h3,Nat.zero_add,Nat.mul_one] at this
   exact this
  ·unfold Sha.cat
   by_cases hin2:i < n
   ·rw [if_pos hin2,World.cell?_setCells_out g (bv m f) n w ⟨g,i,none⟩ (fun _ _ => .inl hin2)]
    exact h.2.1 i hin2
   ·rw [if_neg hin2]
    have:=hin (i - n) _ (bv_at (f:=f) (show i - n < m by omega))
    rwa [show n + (i - n) = i from by omega] at this
 ·obtain ⟨v',w',hr,ho,hg⟩:=run_append_arg_grows (P:=Tryz.prog) w 68 ty 5 i0 (.int .u8 0) 1 1 Tryz.underlying68 h1 h2 h3 h4 rfl (by decide) ⟨g,0,none⟩ n cap (bv n F) (by rw [bv_length,Nat.mul_one]) (bv_news h.code) ⟨sb,so,none⟩ m c (bv m f) (by rw [bv_length,Nat.mul_one]) (bv_news hs) (by omega) (by unfold maxLen; omega) (by omega)
  rw [bv_append] at ho
  have hne:v'≠.slice none 0 0:=fun e => by
   subst e
   rcases ho.2 with ⟨_,h0⟩ | ⟨g',cap',cur,h0,_⟩
   ·have:=h.1; omega
   ·cases h0
  obtain ⟨hl,⟨e,_⟩ | ⟨g',cap',cur,rfl,hb,hh,hn',hm',hs',ht'⟩⟩:=ho
  ·exact absurd e hne
  ·have hB2:Below B w w':=(Below.refl B w).grown hg hBw (fun k hk => by cases hk)
   refine ⟨g',cap',w',hr,⟨hn',fun i hi => ?_,fun i hi => ⟨?_,?_⟩,?_⟩,hB2,by omega⟩
   ·have h1:(cur.toList.take ((n + m) * 1))[i]? = some (.int .u8 ((Sha.cat n F f i:Nat):Int)):=by rw [ht']; exact bv_at hi
    rw [List.getElem?_take,if_pos (by omega),Array.getElem?_toList] at h1
    simp [World.cell?,hh,h1]
   ·simp [World.cell?,hh]; omega
   ·simp [World.frozen?,hh]
   ·rcases Nat.lt_or_ge g' w'.heap.size with k | k
    ·exact k
    ·rw [Array.getElem?_eq_none k] at hh; cases hh
def RetM (B:Nat) (w':World) (e:Ending) (n:Nat) (f:Nat→Nat):Prop:=∃ g c,e = .returned (.slice (some ⟨g,0,none⟩) n c)∧B≤g∧RowM w' g n c f
set_option maxRecDepth 100000 in
set_option maxHeartbeats 1000000 in
theorem appendNumberM_any (B g k c x sz:Nat) (f:Nat→Nat) (hsz:sz≤8) (hk:k≤900000) (w:World) (hBg:B≤g) (hB:B≤w.heap.size) (h:RowM w g k c f) :
  Calls Tryz.prog 62 #[.slice (some ⟨g,0,none⟩) k c,.int .i64 (x:Int),.int .i64 (sz:Int)] w fun e w' => RetM B w' e (k + sz) (numF k sz x f)∧Below B w w':=by
 have HO0:Hid (RowM w g k c f):=h
 have HBg:Hid (B≤g):=hBg
 clear h hBg
 go_enter Tryz.func62,Tryz.ntmps62
 go_wp2
 go_loopw [0,7] (fun s i wr => ∃ r g c:Nat,r≤sz∧i = .int .i64 ((sz:Int) - 1 - (r:Int))∧s = .slice (some ⟨g,0,none⟩) (k + r) c∧B≤g∧RowM wr g (k + r) c (numF k sz x f)∧Below B w wr) (fun _ i _ => (intOf i + 1).toNat)
 case atStart =>
  refine ⟨0,g,c,by omega,numEq8 (by omega),rfl,HBg.out,?_,Below.refl _ _⟩
  exact HO0.out.congr (fun i hi => by unfold numF; rw [if_pos (by omega)])
 case round =>
  clear HO0 HBg
  obtain ⟨r,g,c,hr,rfl,rfl,hBg,hown,hb⟩:=hrel
  have HO:Hid (RowM wr g (k + r) c (numF k sz x f)):=hown
  have HB:Hid (Below B w wr):=hb
  have HBg:Hid (B≤g):=hBg
  clear hown hb hBg
  by_cases hlt:r < sz
  ·have x0:(0:Int)≤(sz:Int) - 1 - (r:Int):=by omega
   obtain ⟨s,hs⟩:∃ s,s = 8 * (sz - 1 - r):=⟨_,rfl⟩
   have e8:(8:Int) * ((sz:Int) - 1 - (r:Int)) = (s:Int):=by omega
   have s0:(0:Int)≤(s:Int):=by omega
   have s1:(s:Int)≤64:=by omega
   have eX:(x:Int) / 2 ^ s = ((x / 2 ^ s:Nat):Int):=by simp
   have HX:Hid (numF k sz x f (k + r) = x / 2 ^ s % 256):=by show numF _ _ _ _ _ = _; unfold numF; rw [if_neg (by omega),show k + r - k = r from by omega,hs]
   generalize x / 2 ^ s = y at *
   have eY:(y:Int) % 256 = ((y % 256:Nat):Int):=by omega
   generalize y % 256 = Y at *
   have hsz2:B≤wr.heap.size:=Nat.le_trans hB HB.out.size
   have hA:Below wr.heap.size wr (wr.alloc (.cells #[.int .u8 (Y:Nat)] 5)):=(Below.refl _ _).alloc (Nat.le_refl _) _
   obtain ⟨g2,c2,w2,hap,hr2,hb2,hB2⟩:=appendM (wr.alloc (.cells #[.int .u8 (Y:Nat)] 5)) B g (k + r) c (numF k sz x f) wr.heap.size 0 1 1 (fun _ => Y) HBg.out (Nat.le_trans hsz2 hA.size) (by omega) (HO.out.below hA) (code8_of (fun i hi => by
     obtain rfl:i = 0:=by omega
     simp)) 68
   have HAP:Hid _:=hap
   have HR2:Hid (RowM w2 g2 (k + r + 1) c2 (numF k sz x f)):=hr2.congr (fun j hj => by
    unfold Sha.cat
    by_cases e:j < k + r
    ·rw [if_pos e]
    ·rw [if_neg e,show j = k + r from by omega]; exact HX.out.symm)
   have HB2:Hid (Below B w w2):=HB.out.trans ((hA.mono hsz2).trans hb2)
   have HG2:Hid (B≤g2):=hB2
   have HK:Hid ((sz:Int) - 1 - (r:Int) - 1 = (sz:Int) - 1 - ((r + 1:Nat):Int)):=by show _ = _; omega
   clear hs hA hap hr2 hb2 hB2 HO HB HBg
   go_wp2_with (at_builtin; refine Lib.wpList_append_run _ rfl (.tmp 14) (.tmp 20) _ _ rfl _ _ rfl rfl _ _ HAP.out ?_)
   go_roundw
   case rel => exact ⟨r + 1,g2,c2,by omega,numEq8 HK.out,rfl,HG2.out,HR2.out,HB2.out⟩
   case measure => simp [intOf]; omega
  ·have x0:¬ (0:Int)≤(sz:Int) - 1 - (r:Int):=by omega
   obtain rfl:r = sz:=by omega
   go_wp2
   go_ret
   exact ⟨⟨g,c,rfl,HBg.out,HO.out⟩,HB.out⟩
def fourF (k j:Nat):Nat:=k / 256 ^ (3 - j) % 256
theorem fourF_lt (k j:Nat):fourF k j < 256:=Nat.mod_lt _ (by omega)
def nonceF (p v:Nat):Nat→Nat:=numF 8 4 v (numF 4 4 p (fun _ => 0))
theorem four_num (k x:Nat) (f:Nat→Nat) (i:Nat):numF k 4 x f (k + i) = fourF x i:=by
 unfold numF fourF
 rw [if_neg (by omega),show k + i - k = i from by omega,show (4:Nat) - 1 - i = 3 - i from by omega,Nat.pow_mul]
theorem nonce_text (p v:Nat):kstr (fourF 0) 0 4 ++ kstr (fourF p) 0 4 ++ kstr (fourF v) 0 4 = kstr (nonceF p v) 0 12:=by
 have e0:kstr (fourF 0) 0 4 = kstr (nonceF p v) 0 4:=kstr_congr (fun i hi => by
  unfold nonceF
  rw [Nat.zero_add]
  show fourF 0 i = if i < 8 then (if i < 4 then 0 else _) else _
  rw [if_pos (by omega),if_pos hi]
  unfold fourF
  rw [Nat.zero_div])
 have e1:kstr (fourF p) 0 4 = kstr (nonceF p v) 4 4:=kstr_congr (fun i hi => by
  rw [Nat.zero_add]
  show fourF p i = if 4 + i < 8 then numF 4 4 p (fun _ => 0) (4 + i) else _
  rw [if_pos (by omega),four_num])
 have e2:kstr (fourF v) 0 4 = kstr (nonceF p v) 8 4:=kstr_congr (fun i hi => by
  rw [Nat.zero_add]
  exact (four_num 8 v _ i).symm)
 rw [e0,e1,e2,kstr_append,kstr_append]
theorem l02FourB_any (k:Nat) (hk:k < 4294967296) (w:World) :
  Calls Tryz.prog 56 #[.int .i64 (k:Int)] w fun e w' => e = .returned (.slice (some ⟨w.heap.size,0,none⟩) 4 4)∧Own8 w' w.heap.size 4 (fourF k)∧Below w.heap.size w w':=by
 go_enter Tryz.func56,Tryz.ntmps56
 go_wp2
 go_ret
 refine ⟨rfl,Own8.ofRow (World.rowIs_alloc w #[.int .u8 ((k:Int) / 16777216),.int .u8 ((k:Int) / 65536 % 256),.int .u8 ((k:Int) / 256 % 256),.int .u8 ((k:Int) % 256)] 5 _ (fun i hi => ?_)),(Below.refl _ _).alloc (Nat.le_refl _) _⟩
 have hi':i < 4:=by simpa using hi
 rcases (show i = 0∨i = 1∨i = 2∨i = 3 by omega) with rfl | rfl | rfl | rfl
 ·exact congrArg some (numEq8 (by show (k:Int) / 16777216 = ((k / 16777216 % 256:Nat):Int); omega))
 ·exact congrArg some (numEq8 (by show (k:Int) / 65536 % 256 = ((k / 65536 % 256:Nat):Int); omega))
 ·exact congrArg some (numEq8 (by show (k:Int) / 256 % 256 = ((k / 256 % 256:Nat):Int); omega))
 ·exact congrArg some (numEq8 (by show (k:Int) % 256 = ((k / 1 % 256:Nat):Int); omega))
set_option maxRecDepth 100000 in
set_option maxHeartbeats 1000000 in
theorem l04Nonce_any (p v:Nat) (hp:p < 4294967296) (hv:v < 4294967296) (w:World) :
  Calls Tryz.prog 53 #[.int .i64 (p:Int),.int .i64 (v:Int)] w fun e w' => e = .returned (.string (kstr (nonceF p v) 0 12))∧Below w.heap.size w w':=by
 have FO:Hid (∀ (k:Nat) (w:World),k < 4294967296→Calls Tryz.prog 56 #[.int .i64 (k:Int)] w fun e w' => e = .returned (.slice (some ⟨w.heap.size,0,none⟩) 4 4)∧Own8 w' w.heap.size 4 (fourF k)∧Below w.heap.size w w'):=fun k w h => l02FourB_any k h w
 have F0:Hid (∀ (w:World),Calls Tryz.prog 56 #[.int .i64 0] w fun e w' => e = .returned (.slice (some ⟨w.heap.size,0,none⟩) 4 4)∧Own8 w' w.heap.size 4 (fourF 0)∧Below w.heap.size w w'):=fun w => FO.out 0 w (by omega)
 rw [← nonce_text]
 have z0:(kstr (fourF 0) 0 4).size = 4:=kstr_size _ _ _
 have z1:(kstr (fourF p) 0 4).size = 4:=kstr_size _ _ _
 have z2:(kstr (fourF v) 0 4).size = 4:=kstr_size _ _ _
 generalize hg0:kstr (fourF 0) 0 4 = s0 at *
 generalize hg1:kstr (fourF p) 0 4 = s1 at *
 generalize hg2:kstr (fourF v) 0 4 = s2 at *
 go_enter Tryz.func53,Tryz.ntmps53
 go_upto_region 1 with fail
 refine wp_region_noPanic ?_
 refine wp_region_held_drew (S:=fun _ => True) (by kernel_rfl) trivial (fun _ => ?_)
 refine wpAnyH_take (i:=2) (v:=.int .i64 (p:Int)) rfl (by kernel_rfl) (by kernel_rfl) (by kernel_rfl) (fun _ _ _ h => h) (Or.inl ⟨by rfl,?_⟩) trivial ?_
 ·intro w hSw; go_simp
 refine ch15 ?_
 refine wpAnyH_take (i:=6) (v:=.int .i64 (v:Int)) rfl (by kernel_rfl) (by kernel_rfl) (by kernel_rfl) (fun _ _ _ h => h) (Or.inl ⟨by rfl,?_⟩) trivial ?_
 ·intro w hSw; go_simp
 refine ch15 ?_
 refine wpAnyH_ready (rs:=[0]) (by kernel_rfl) (by simp) ?_
 refine AllReadyH.cons rfl (fun KK hK => ?_) AllReadyH.nil
 go_simp
 refine (F0.out _).mono ?_
 rintro e w1 ⟨rfl,ho1,hb1⟩
 refine hK.out _ _ trivial (fun _ => ?_)
 clear hK KK
 refine ch15 ?_
 have HB1:Hid (Below w.heap.size w w1):=(Below.refl _ w).drew.trans hb1
 change Own8 w1 w.heap.size 4 (fourF 0) at ho1
 change wpAnyH _ _ _ _ _ _ _ { tmps:=#[_,_,_,_,_,.slice (some ⟨w.heap.size,0,none⟩) 4 4,_,_,_,_,_,_,_,_,_],defers:=[] } _
 clear hb1
 refine wpAnyH_strong (S':=fun w' => Own8 w' w.heap.size 4 (fourF 0)) (fun _ _ => trivial) _ _ _ _ ?_
 refine wpAnyH_take (i:=1) (v:=.string s0) rfl (by kernel_rfl) (by kernel_rfl) (by kernel_rfl) (fun _ _ _ h => h) (Or.inl ⟨by rfl,?_⟩) ho1 ?_
 ·intro w' hSw
  have:=kstr_of_code (c:=4) hSw.code
  rw [hg0] at this
  go_simp
 refine ch15 ?_
 refine wpAnyH_ready (rs:=[3]) (by kernel_rfl) (by simp) ?_
 refine AllReadyH.cons rfl (fun KK hK => ?_) AllReadyH.nil
 go_simp
 refine (FO.out p _ hp).mono ?_
 rintro e w2 ⟨rfl,ho2,hb2⟩
 have hk2:Own8 w2 w.heap.size 4 (fourF 0):=ho1.below hb2
 refine hK.out _ _ hk2 (fun _ => ?_)
 clear hK KK
 refine ch15 ?_
 have HB2:Hid (Below w.heap.size w w2):=HB1.out.trans (hb2.mono HB1.out.size)
 clear hb2 HB1 ho1
 generalize w1.heap.size = b1 at *
 refine wpAnyH_strong (S':=fun w' => Own8 w' b1 4 (fourF p)∧Own8 w' w.heap.size 4 (fourF 0)) (fun _ h => h.2) _ _ _ _ ?_
 refine wpAnyH_take (i:=4) (v:=.string s1) rfl (by kernel_rfl) (by kernel_rfl) (by kernel_rfl) (fun _ _ _ h => h) (Or.inl ⟨by rfl,?_⟩) ⟨ho2,hk2⟩ ?_
 ·intro w' hSw
  have:=kstr_of_code (c:=4) hSw.1.code
  rw [hg1] at this
  go_simp
 refine ch15 ?_
 refine wpAnyH_take (i:=5) (v:=.string (s0 ++ s1)) rfl (by kernel_rfl) (by kernel_rfl) (by kernel_rfl) (fun _ _ _ h => h) (Or.inl ⟨by rfl,?_⟩) ⟨ho2,hk2⟩ ?_
 ·intro w' hSw; go_simp
 refine ch15 ?_
 refine wpAnyH_ready (rs:=[7]) (by kernel_rfl) (by simp) ?_
 refine AllReadyH.cons rfl (fun KK hK => ?_) AllReadyH.nil
 go_simp
 refine (FO.out v _ hv).mono ?_
 rintro e w3 ⟨rfl,ho3,hb3⟩
 refine hK.out _ _ ⟨ho2.below hb3,hk2.below hb3⟩ (fun _ => ?_)
 clear hK KK
 refine ch15 ?_
 have HB3:Hid (Below w.heap.size w w3):=HB2.out.trans (hb3.mono HB2.out.size)
 have hS3:Own8 w3 b1 4 (fourF p)∧Own8 w3 w.heap.size 4 (fourF 0):=⟨ho2.below hb3,hk2.below hb3⟩
 clear hb3 HB2 ho2 hk2
 generalize w2.heap.size = b2 at *
 refine wpAnyH_strong (S':=fun w' => Own8 w' b2 4 (fourF v)∧Own8 w' b1 4 (fourF p)∧Own8 w' w.heap.size 4 (fourF 0)) (fun _ h => h.2) _ _ _ _ ?_
 refine wpAnyH_take (i:=8) (v:=.string s2) rfl (by kernel_rfl) (by kernel_rfl) (by kernel_rfl) (fun _ _ _ h => h) (Or.inl ⟨by rfl,?_⟩) ⟨ho3,hS3⟩ ?_
 ·intro w' hSw
  have:=kstr_of_code (c:=4) hSw.1.code
  rw [hg2] at this
  go_simp
 refine ch15 ?_
 refine wpAnyH_take (i:=9) (v:=.string (s0 ++ s1 ++ s2)) rfl (by kernel_rfl) (by kernel_rfl) (by kernel_rfl) (fun _ _ _ h => h) (Or.inl ⟨by rfl,?_⟩) ⟨ho3,hS3⟩ ?_
 ·intro w' hSw; go_simp
 refine ch15 ?_
 refine wpAnyH_take (i:=10) (v:=.string (s0 ++ s1 ++ s2)) rfl (by kernel_rfl) (by kernel_rfl) (by kernel_rfl) (fun _ _ _ h => h) (Or.inl ⟨by rfl,?_⟩) ⟨ho3,hS3⟩ ?_
 ·intro w' hSw; go_simp
 refine ch15 ?_
 clear hS3 ho3
 refine wpAnyH_done (by kernel_rfl) ?_ _
 refine NoPanic.normal ?_
 go_wp2
 go_ret
 exact ⟨rfl,HB3.out⟩
theorem isWord_any (x:Int) (r:Bool) (hr:r = decide (0≤x∧x≤4294967295)) (w:World) :
  Calls Tryz.prog 150 #[.int .i64 x] w fun e w' => e = .returned (.bool r)∧w = w':=by
 by_cases h1:0≤x
 ·by_cases h2:x≤4294967295
  ·obtain rfl:r = true:=by rw [hr]; simp; omega
   clear hr
   go_enter Tryz.func150,Tryz.ntmps150
   go_wp2
   go_ret
   exact ⟨rfl,rfl⟩
  ·obtain rfl:r = false:=by rw [hr]; simp; omega
   clear hr
   go_enter Tryz.func150,Tryz.ntmps150
   go_wp2
   go_ret
   exact ⟨rfl,rfl⟩
 ·obtain rfl:r = false:=by rw [hr]; simp; omega
  clear hr
  go_enter Tryz.func150,Tryz.ntmps150
  go_wp2
  go_ret
  exact ⟨rfl,rfl⟩
theorem mkFour (w:World):∃ w',(Instr.makeSlice 68 (.int .i64 4) (.int .i64 12)).run Tryz.prog w = .ok (.slice (some ⟨w.heap.size,0,none⟩) 4 12) w'∧RowM w' w.heap.size 4 12 (fun _ => 0)∧Below w.heap.size w w':=by
 obtain ⟨i0,h1,h2,h3,h4⟩:=info_parts Tryz.info8
 have hr:=run_make (P:=Tryz.prog) w 68 5 i0 (.int .u8 0) Tryz.underlying68 h1 h2 .i64 .i64 4 12 (by omega) (by omega) (by rw [h4]; omega) (by omega)
 rw [h3] at hr
 have hrow:=World.rowIs_made w (.int .u8 0) 12 5
 exact ⟨_,hr,⟨by omega,fun i hi => hrow.cell (by omega),fun i hi => ⟨by rw [show (w.alloc (.cells (madeCells (Value.cells (.int .u8 0)) ((12:Int).toNat * 1)) 5)).cell? ⟨w.heap.size,i,none⟩ = some (.int .u8 0) from hrow.cell hi]; rfl,hrow.frozen i⟩,hrow.lt⟩,(Below.refl _ _).alloc (Nat.le_refl _) _⟩
set_option maxRecDepth 100000 in
theorem implNonce_yes (p v:Nat) (hp:p < 4294967296) (hv:v < 4294967296) (w:World) :
  Calls Tryz.prog 149 #[.int .i64 (p:Int),.int .i64 (v:Int)] w fun e w' => e = .returned (.tuple #[.string (kstr (nonceF p v) 0 12),.int .i64 0])∧Below w.heap.size w w':=by
 have L1:Hid (∀ w:World,Calls Tryz.prog 150 #[.int .i64 (p:Int)] w fun e w' => e = .returned (.bool true)∧w = w'):=fun w => isWord_any p true (by simp; omega) w
 have L2:Hid (∀ w:World,Calls Tryz.prog 150 #[.int .i64 (v:Int)] w fun e w' => e = .returned (.bool true)∧w = w'):=fun w => isWord_any v true (by simp; omega) w
 have AN:Hid (∀ (g k c x:Nat) (f:Nat→Nat) (w1:World),k≤1000→w.heap.size≤g→w.heap.size≤w1.heap.size→RowM w1 g k c f→Calls Tryz.prog 62 #[.slice (some ⟨g,0,none⟩) k c,.int .i64 (x:Int),.int .i64 4] w1 fun e w' => RetM w.heap.size w' e (k + 4) (numF k 4 x f)∧Below w.heap.size w1 w'):=fun g k c x f w1 hk h1 h2 h => appendNumberM_any w.heap.size g k c x 4 f (by omega) (by omega) w1 h1 h2 h
 obtain ⟨X,hX⟩:∃ X,X = kstr (nonceF p v) 0 12:=⟨_,rfl⟩
 rw [← hX]
 have HX:Hid (X = kstr (nonceF p v) 0 12):=hX
 clear hX
 obtain ⟨w0,hmk,hr0,hb0⟩:=mkFour w
 have R0:Hid (RowM w0 w.heap.size 4 12 (fun _ => 0)):=hr0
 have B0:Hid (Below w.heap.size w w0):=hb0
 clear hp hv hr0 hb0
 go_enter Tryz.func149,Tryz.ntmps149
 go_wp2_with fail
 refine (L1.out _).mono ?_
 rintro e w1 ⟨rfl,rfl⟩
 go_wp2_with fail
 refine (L2.out _).mono ?_
 rintro e w1 ⟨rfl,rfl⟩
 go_wp2_with fail
 refine (AN.out w.heap.size 4 12 p _ w0 (by omega) (Nat.le_refl _) B0.out.size R0.out).mono ?_
 rintro e w1 ⟨⟨g1,c1,rfl,hg1,hr1⟩,hb1⟩
 have R1:Hid (RowM w1 g1 (4 + 4) c1 (numF 4 4 p (fun _ => 0))):=hr1
 have B1:Hid (Below w.heap.size w w1):=B0.out.trans hb1
 have G1:Hid (w.heap.size≤g1):=hg1
 clear hr1 hb1 hg1 R0 B0 hmk
 go_wp2_with fail
 refine (AN.out g1 8 c1 v _ w1 (by omega) G1.out B1.out.size R1.out).mono ?_
 rintro e w2 ⟨⟨g2,c2,rfl,hg2,hr2⟩,hb2⟩
 have B2:Hid (Below w.heap.size w w2):=B1.out.trans hb2
 have hcv:=kstr_of_code (c:=c2) hr2.code
 change (convert 68 9 (.slice (some ⟨g2,0,none⟩) 12 c2)).run Tryz.prog w2 = .ok (.string (kstr (nonceF p v) 0 12)) w2 at hcv
 rw [← HX.out] at hcv
 clear hr2 hb2 hg2 R1 B1 G1 AN
 go_wp2
 go_ret2
 exact ⟨rfl,B2.out⟩
end Go.Proofs.YtcpjeopnhgoonaaGreatDoor
namespace Go.Proofs.YtcpjeopnhgoonaaGreatDoor
open Go.RowKit
set_option linter.unusedVariables false
theorem hid {p:Prop} (h:p):Hid p:=h
theorem tg0 {p:Prop} (q0:p) (_:True):p:=q0
theorem tg1 {p:Prop} (q1:p) (_:True):p:=q1
theorem tg2 {p:Prop} (q2:p) (_:True):p:=q2
theorem tg3 {p:Prop} (q3:p) (_:True):p:=q3
theorem tg4 {p:Prop} (q4:p) (_:True):p:=q4
theorem tg5 {p:Prop} (q5:p) (_:True):p:=q5
theorem tg6 {p:Prop} (q6:p) (_:True):p:=q6
theorem tg7 {p:Prop} (q7:p) (_:True):p:=q7
theorem tg8 {p:Prop} (q8:p) (_:True):p:=q8
theorem tg9 {p:Prop} (q9:p) (_:True):p:=q9
theorem tg10 {p:Prop} (q10:p) (_:True):p:=q10
theorem tg11 {p:Prop} (q11:p) (_:True):p:=q11
theorem tg12 {p:Prop} (q12:p) (_:True):p:=q12
theorem tg13 {p:Prop} (q13:p) (_:True):p:=q13
theorem tg14 {p:Prop} (q14:p) (_:True):p:=q14
theorem tg15 {p:Prop} (q15:p) (_:True):p:=q15
theorem tg16 {p:Prop} (q16:p) (_:True):p:=q16
theorem tg24 {p:Prop} (q24:p) (_:True):p:=q24
end Go.Proofs.YtcpjeopnhgoonaaGreatDoor
namespace Go.Proofs.YtcpjeopnhgoonaaGreatDoor
open Go.ChangeShapes Go.WideShapes Go.ChangeAt Go.RowKit
set_option linter.unusedVariables false
end Go.Proofs.YtcpjeopnhgoonaaGreatDoor
