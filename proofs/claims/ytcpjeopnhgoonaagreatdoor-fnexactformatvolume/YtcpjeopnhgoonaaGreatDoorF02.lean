/-
  Texts of the proof, joined.
-/
import Derived.Test.YtcpjeopnhgoonaaGreatDoorRows
import Derived.WalkKit
import Derived.ProofKit
import Derived.Below
import Derived.WalkSmall
import Derived.IntWalk
import Derived.Laws.BytesArg
import Derived.Laws.Concat
import Derived.Deep.OwnRows
import Derived.Deep.RegionHeld3
import Derived.Deep.QuietTactic
import Derived.BigQuiet
import Derived.OpenShut
import Derived.ShutString
import Derived.ChangeOld
namespace Go.Proofs.YtcpjeopnhgoonaaGreatDoor
open Go.ChangeShapes Go.WideShapes Go.ChangeAt Go.RowKit
set_option linter.unusedVariables false
def Strs (w:World) (a:Option Addr) (n:Nat) (f:Nat→ByteArray):Prop:=∀ i,i < n→∃ b off,a = some ⟨b,off,none⟩∧w.cell? ⟨b,off + i,none⟩ = some (.string (f i))
theorem strBlock {w:World} {p:Addr} {v:Value} (h:w.cell? p = some v):p.block < w.heap.size:=by
 rcases Nat.lt_or_ge p.block w.heap.size with g | g
 ·exact g
 ·simp [World.cell?,Array.getElem?_eq_none g] at h
theorem Strs.opened {w:World} {a:Option Addr} {n:Nat} {f:Nat→ByteArray} (h:Strs w a n f) (hn:0 < n) :
  ∃ b off,a = some ⟨b,off,none⟩∧∀ i,i < n→w.cell? ⟨b,off + i,none⟩ = some (.string (f i)):=by
 obtain ⟨b,off,rfl,_⟩:=h 0 hn
 refine ⟨b,off,rfl,fun i hi => ?_⟩
 obtain ⟨b',off',hab,hc⟩:=h i hi
 cases hab
 exact hc
theorem Strs.below {w w':World} {a:Option Addr} {n:Nat} {f:Nat→ByteArray} (h:Strs w a n f) (hb:Below w.heap.size w w'):Strs w' a n f:=fun i hi => by
 obtain ⟨b,off,ha,hc⟩:=h i hi
 exact ⟨b,off,ha,by rw [hb.cell (strBlock hc)]; exact hc⟩
set_option maxRecDepth 100000 in
set_option maxHeartbeats 1000000 in
theorem eqStringS_yes (a b:Option Addr) (n c d:Nat) (f g:Nat→ByteArray) (w:World) (h:Strs w a n f) (h':Strs w b n g) (he:∀ i,i < n→f i = g i) (hn:n≤1048576) :
  Calls Tryz.prog 14 #[.slice a n c,.slice b n d] w fun e w' => e = .returned (.bool true)∧∃ q,w' = w.drewN q:=by
 rcases Nat.eq_zero_or_pos n with rfl | hpos
 ·go_enter Tryz.func14,Tryz.ntmps14
  go_wp2
  go_loopw [5] (fun i wr => i = .int .i64 0∧wr = w) (fun _ _ => 0)
  case atStart => exact ⟨rfl,rfl⟩
  case round =>
   obtain ⟨rfl,rfl⟩:=hrel
   go_wp2
   go_ret
   exact ⟨rfl,0,rfl⟩
 ·obtain ⟨b1,o1,rfl,hc⟩:=h.opened hpos
  obtain ⟨b2,o2,rfl,hc'⟩:=h'.opened hpos
  have HC:Hid (∀ i,i < n→w.cell? ⟨b1,o1 + i,none⟩ = some (.string (f i))):=hc
  have HD:Hid (∀ i,i < n→w.cell? ⟨b2,o2 + i,none⟩ = some (.string (f i))):=fun i hi => by rw [he i hi]; exact hc' i hi
  clear h h' hc hc' he
  have hne:((n:Int) != (n:Int)) = false:=by simp
  go_enter Tryz.func14,Tryz.ntmps14
  go_wp2
  go_loopw [5] (fun i wr => ∃ k:Nat,k≤n∧i = .int .i64 k∧∃ q,wr = w.drewN q) (fun i _ => n - (intOf i).toNat)
  case atStart => exact ⟨0,by omega,rfl,0,rfl⟩
  case round =>
   obtain ⟨k,hk,rfl,q,rfl⟩:=hrel
   by_cases hlt:k < n
   ·have c1:=HC.out k hlt
    have c2:=HD.out k hlt
    have hlt':(k:Int) < (n:Int):=by omega
    generalize f k = V at *
    go_wp2
    go_quiet (fail)
    go_wp2
    go_roundw
    case rel => exact ⟨k + 1,by omega,by go_num,_,by first | rfl | rw [World.drewN_drewN]⟩
    case measure => simp [intOf]; omega
   ·go_wp2
    go_ret
    exact ⟨rfl,q,rfl⟩
theorem numEqS {k:IntKind} {a b:Int} (h:a = b):Value.int k a = .int k b:=by rw [h]
def mtS:Nat→Nat→ByteArray→ByteArray
 | 0,_,out => out
 | f + 1,k,out => if k = 0 then out else mtS f (k / 10) (strOfNums [((48 + k % 10:Nat):Int)] ++ out)
theorem mtS_zero (f:Nat) (out:ByteArray):mtS f 0 out = out:=by cases f <;> simp [mtS]
def mt (k:Nat):ByteArray:=⟨#[109]⟩ ++ mtS 32 k ⟨#[]⟩
set_option maxRecDepth 100000 in
set_option maxHeartbeats 1000000 in
theorem markText_any (k:Nat) (h1:1≤k) (h2:k≤100000000) (w:World) :
  Calls Tryz.prog 30 #[.int .i64 k] w fun e w' => e = .returned (.string (mt k))∧Below w.heap.size w w':=by
 have h1':¬ (k:Int)≤0:=by omega
 have E0:Hid (mt k = ⟨#[109]⟩ ++ mtS 32 k ⟨#[]⟩):=rfl
 generalize mt k = R at *
 go_enter Tryz.func30,Tryz.ntmps30
 go_wp2
 go_loopw [0,3] (fun kv ov wr => ∃ (K f:Nat) (out:ByteArray),kv = .int .i64 K∧ov = .string out∧mtS 32 k ⟨#[]⟩ = mtS f K out∧K < 2 ^ f∧out.size + f≤32∧K≤100000000∧Below w.heap.size w wr) (fun kv _ _ => (intOf kv).toNat)
 case atStart => exact ⟨k,32,⟨#[]⟩,rfl,rfl,rfl,by omega,by simp [ByteArray.size],h2,Below.refl _ _⟩
 case round =>
  obtain ⟨K,f,out,rfl,rfl,hm,hf,ho,hK,hb⟩:=hrel
  have HB:Hid (Below w.heap.size w wr):=hb
  by_cases hpos:0 < K
  ·obtain ⟨f,rfl⟩:∃ f',f = f' + 1:=⟨f - 1,by
    rcases Nat.eq_zero_or_pos f with rfl | h
    ·simp at hf; omega
    ·omega⟩
   have HM:Hid (mtS 32 k ⟨#[]⟩ = mtS f (K / 10) (strOfNums [((48 + K % 10:Nat):Int)] ++ out)):=by
    refine Eq.trans hm ?_
    rw [mtS,if_neg (by omega)]
   have hf':K / 10 < 2 ^ f:=by rw [Nat.pow_succ] at hf; omega
   have hcv:(convert 68 9 (.slice (some ⟨wr.heap.size,0,none⟩) 1 1)).run Tryz.prog (wr.alloc (.cells #[.int .u8 (48 + (K:Int) % 10)] 5)) = .ok (.string (strOfNums [((48 + K % 10:Nat):Int)])) (wr.alloc (.cells #[.int .u8 (48 + (K:Int) % 10)] 5)):=by
    refine run_convert_bytes_arg _ 68 5 Tryz.underlying68 Tryz.underlying5 wr.heap.size 0 1 1 [((48 + K % 10:Nat):Int)] rfl (fun i hi => ?_) 9 Tryz.underlying9
    obtain rfl:i = 0:=by omega
    simp
    try rfl
   have sz:(strOfNums [((48 + K % 10:Nat):Int)]).size = 1:=by rw [strOfNums_size]; rfl
   have hsz:=hb.size
   clear hm hf hb
   generalize hD:strOfNums [((48 + K % 10:Nat):Int)] = D at *
   have szo:(out.size:Int)≤32:=by omega
   have szd:(D.size:Int) = 1:=by omega
   go_wp2
   go_roundw
   case rel =>
    refine ⟨K / 10,f,D ++ out,numEqS (by omega),rfl,HM.out,hf',?_,by omega,HB.out.alloc hsz _⟩
    rw [ByteArray.size_append]; omega
   case measure => simp [intOf]; omega
  ·obtain rfl:K = 0:=by omega
   rw [mtS_zero] at hm
   have HM:Hid (R = ⟨#[109]⟩ ++ out):=by rw [← hm]; exact E0.out
   have sm:((⟨#[109]⟩:ByteArray).size:Int) = 1:=rfl
   have szo:(out.size:Int)≤32:=by omega
   clear hm hf hb E0
   generalize hG:(⟨#[109]⟩:ByteArray) = G at *
   go_wp2
   go_ret
   exact ⟨by rw [HM.out]; rfl,HB.out⟩
structure OnlyB (b:Nat) (w w':World):Prop where
 os:w'.os = w.os
 tape:w'.tape = w.tape
 output:w'.output = w.output
 size:w.heap.size≤w'.heap.size
 block:∀ k,k < w.heap.size→k≠b→w'.heap[k]? = w.heap[k]?
theorem OnlyB.refl (b:Nat) (w:World):OnlyB b w w:=⟨rfl,rfl,rfl,Nat.le_refl _,fun _ _ _ => rfl⟩
theorem OnlyB.below {b:Nat} {w w' w'':World} (h:OnlyB b w w') (hb:Below w'.heap.size w' w''):OnlyB b w w'' :=
 ⟨hb.os.trans h.os,hb.tape.trans h.tape,hb.output.trans h.output,Nat.le_trans h.size hb.size,fun k hk hn => (hb.block k (Nat.lt_of_lt_of_le hk h.size)).trans (h.block k hk hn)⟩
theorem OnlyB.setCell {b:Nat} {w w':World} (h:OnlyB b w w') (i:Nat) (v:Value):OnlyB b w (w'.setCell ⟨b,i,none⟩ v) :=
 ⟨h.os,h.tape,h.output,by simpa using h.size,fun k hk hn => (Below.heap_setCell w' ⟨b,i,none⟩ v k hn).trans (h.block k hk hn)⟩
theorem OnlyB.toBelow {b B:Nat} {w w':World} (h:OnlyB b w w') (hB:B≤b) (hw:B≤w.heap.size):Below B w w' :=
 ⟨h.os,h.tape,h.output,h.size,fun k hk => h.block k (by omega) (by omega)⟩
def IsRow (k:IntKind) (w:World) (a:Option Addr) (len cap:Nat) (zs:List Int):Prop :=
 (a = none∧len = 0∧cap = 0∧zs = []) ∨
 ∃ x,a = some x∧len≤cap∧cap≤maxLen∧zs.length = cap∧(∀ i,i < zs.length→w.cell? (x.add i) = some (.int k (zs.getD i 0)))∧∀ n ∈ zs,(Lit.int k n).wf = true
end Go.Proofs.YtcpjeopnhgoonaaGreatDoor
