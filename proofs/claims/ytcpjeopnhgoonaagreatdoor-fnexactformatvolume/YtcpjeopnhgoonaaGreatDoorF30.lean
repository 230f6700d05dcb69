/-
  Texts of the proof, joined.
-/
import Derived.Test.YtcpjeopnhgoonaaGreatDoorF29
import Derived.Test.YtcpjeopnhgoonaaGreatDoorF17
namespace Go.Proofs.YtcpjeopnhgoonaaGreatDoor
open Go.ChangeShapes Go.WideShapes Go.ChangeAt Go.RowKit
def I16 (w:World) (b:Nat) (f:Nat→Nat):Prop:=∀ j,j < 16→w.cell? ⟨b,j,none⟩ = some (.int .i64 (f j:Nat))∧w.frozen? ⟨b,j,none⟩ = false
theorem I16.lt {w:World} {b:Nat} {f:Nat→Nat} (h:I16 w b f):b < w.heap.size:=cellBlockK (h 0 (by omega)).1
theorem I16.congr {w:World} {b:Nat} {f g:Nat→Nat} (h:I16 w b f) (e:∀ j,j < 16→f j = g j):I16 w b g:=fun j hj => by rw [← e j hj]; exact h j hj
theorem I16.drew {w:World} {b:Nat} {f:Nat→Nat} (h:I16 w b f):I16 w.drew b f:=h
theorem I16.set {w:World} {b:Nat} {f:Nat→Nat} (h:I16 w b f) (i v:Nat):I16 (w.setCell ⟨b,i,none⟩ (.int .i64 (v:Nat))) b (fun j => if j = i then v else f j):=fun j hj => by
 have hj':=h j hj
 refine ⟨?_,by rw [World.frozen?_setCell]; exact hj'.2⟩
 by_cases e:j = i
 ·subst e
  simp only [if_true]
  exact World.cell?_setCell_same _ _ _ hj'.1
 ·simp only [if_neg e]
  rw [← hj'.1]
  exact World.cell?_setCell_other _ _ _ _ (by intro h; cases h; exact e rfl)
theorem I16.ofOwned {w:World} {base g cap:Nat} {f:Nat→Nat} (h:w.ownsRow base 3 1 (.slice (some ⟨g,0,none⟩) 16 cap) 16 ((List.range 16).map fun j => .int .i64 (f j:Nat))):I16 w g f:=fun j hj => by
 refine ⟨?_,h.frozenAt j⟩
 rw [h.cellAt j (by omega)]
 simp [hj]
theorem OnlyB.drew {b:Nat} {w w':World} (h:OnlyB b w w'):OnlyB b w w'.drew:=⟨h.os,h.tape,h.output,h.size,h.block⟩
theorem Tryz.infoInt:(Tryz.prog.info? 3).map (fun i => (i.zero,i.size,i.bytes)) = some (some (.int .i64 0),1,8):=by kernel_rfl
set_option maxRecDepth 100000 in
set_option maxHeartbeats 1000000 in
theorem l01State_any (s:ByteArray) (hs:s.size = 16) (w:World) :
  Calls Tryz.prog 162 #[.string s] w fun e w' => (∃ b c,w.heap.size≤b∧e = .returned (.slice (some ⟨b,0,none⟩) 16 c)∧I16 w' b (strB s))∧Below w.heap.size w w':=by
 obtain ⟨i0,hi,hz0,hz1,hz2⟩:=info_parts Tryz.infoInt
 have HI:Hid (Tryz.prog.info? 3 = some i0∧i0.zero = some (.int .i64 0)∧i0.size = 1∧i0.bytes = 8):=⟨hi,hz0,hz1,hz2⟩
 clear hi hz0 hz1 hz2
 go_enter Tryz.func162,Tryz.ntmps162
 go_wp2
 go_loopw [3,4] (fun v i wr => ∃ k:Nat,k≤16∧i = .int .i64 k∧wr.ownsRow w.heap.size 3 1 v k ((List.range k).map fun j => .int .i64 (strB s j:Nat))∧Below w.heap.size w wr) (fun _ i _ => 16 - (intOf i).toNat)
 case atStart =>
  refine ⟨0,by omega,rfl,?_,(Below.refl _ _).alloc (Nat.le_refl _) _⟩
  exact ⟨rfl,.inr ⟨w.heap.size,0,#[],rfl,Nat.le_refl _,Deep.blk_alloc_new _ _,Nat.le_refl _,by simp [maxLen],rfl,rfl⟩⟩
 case round =>
  obtain ⟨k,hk,rfl,hown,hb⟩:=hrel
  have HO:Hid (wr.ownsRow w.heap.size 3 1 u3 k ((List.range k).map fun j => .int .i64 (strB s j:Nat))):=hown
  have HB:Hid (Below w.heap.size w wr):=hb
  clear hown hb
  by_cases hlt:k < 16
  ·have es:=strB_eq s k (by omega)
   have hks:(k:Int) < s.size:=by omega
   have hsz:=HB.out.size
   have lb:=strB_lt s k
   generalize hX:strB s k = X at *
   have HX:Hid (strB s k = X):=hX
   clear hX
   go_wp2_with (at_builtin; refine wpList_append_own _ rfl _ _ 71 rfl w.heap.size 3 i0 (.int .i64 0) 1 8 Tryz.underlying71 HI.out.1 HI.out.2.1 HI.out.2.2.1 HI.out.2.2.2 rfl (by decide) u3 k _ rfl (HO.out.alloc _) ⟨wr.heap.size,0,none⟩ 1 1 [.int .i64 (X:Nat)] rfl rfl (one_newK _ _ _) (one_oneK _ rfl) (by unfold maxLen; omega) (by omega) (by simp; omega) ?_)
   intro v' w1 hown' hgrow _
   have HO1:Hid (w1.ownsRow w.heap.size 3 1 v' (k + 1) ((List.range (k + 1)).map fun j => .int .i64 (strB s j:Nat))):=by
    rw [List.range_succ,List.map_append]
    have e:=HX.out
    subst e
    exact hown'
   have HB1:Hid (Below w.heap.size w w1):=(HB.out.alloc hsz _).grown hgrow (by simp; omega) (fun b hb => (HO.out.lt b hb).1)
   clear hown' hgrow hsz HO HB
   go_wp2
   go_roundw
   case rel => exact ⟨k + 1,by omega,by go_num,HO1.out,HB1.out⟩
   case measure => simp [intOf]; omega
  ·obtain rfl:k = 16:=by omega
   obtain ⟨g,cap,hg1,hg2,rfl,hcell⟩:=owned_open HO.out (by omega)
   have HF:Hid (I16 wr g (strB s)):=I16.ofOwned HO.out
   clear hcell
   go_wp2
   go_ret
   exact ⟨⟨g,cap,hg1,rfl,HF.out⟩,HB.out⟩
set_option maxRecDepth 100000 in
set_option maxHeartbeats 1000000 in
theorem l01Xor_any (b c:Nat) (f:Nat→Nat) (hf:∀ j,j < 16→f j < 256) (k:ByteArray) (hk:k.size = 16) (w:World) (h:I16 w b f) :
  Calls Tryz.prog 163 #[.slice (some ⟨b,0,none⟩) 16 c,.string k] w fun e w' => e = .returned (.tuple #[])∧I16 w' b (fun j => f j ^^^ strB k j)∧OnlyB b w w':=by
 have HI:Hid (I16 w b f):=h
 have HF:Hid (∀ j,j < 16→f j < 256):=hf
 clear h hf
 go_enter Tryz.func163,Tryz.ntmps163
 go_wp2
 go_loopw [4] (fun i wr => ∃ q:Nat,q≤16∧i = .int .i64 q∧I16 wr b (fun j => if j < q then f j ^^^ strB k j else f j)∧OnlyB b w wr) (fun i _ => 16 - (intOf i).toNat)
 case atStart => exact ⟨0,by omega,rfl,HI.out.congr (fun j _ => by rw [if_neg (by omega)]),OnlyB.refl _ _⟩
 case round =>
  obtain ⟨q,hq,rfl,hi,ho⟩:=hrel
  have HJ:Hid (I16 wr b (fun j => if j < q then f j ^^^ strB k j else f j)):=hi
  have HO:Hid (OnlyB b w wr):=ho
  by_cases hlt:q < 16
  ·have c1:wr.cell? ⟨b,q,none⟩ = some (.int .i64 (f q:Nat)):=by have:=(hi q hlt).1; simp only [] at this; rw [if_neg (by omega)] at this; exact this
   have f1:=(hi q hlt).2
   have es:=strB_eq k q (by omega)
   have hks:(q:Int) < k.size:=by omega
   have lf:=HF.out q hlt
   have lk:=strB_lt k q
   have ex:bits .xor .i64 (f q:Int) (strB k q:Int) = ((f q ^^^ strB k q:Nat):Int):=i64_xor_nat _ _ (by omega) (by omega)
   have x1:(q:Int) < 16:=by omega
   clear hi ho
   generalize hX:f q ^^^ strB k q = X at *
   have HX:Hid (f q ^^^ strB k q = X):=hX
   clear hX
   generalize strB k q = Y at es ex lk
   generalize f q = Z at c1 ex lf
   go_wp2
   go_region
   go_wp2
   go_roundw
   case rel =>
    refine ⟨q + 1,by omega,by go_num,?_,(HO.out.setCell q _).drew⟩
    exact ((HJ.out.set q X).drew).congr (fun j hj => by
     by_cases e:j = q
     ·subst e; rw [if_pos rfl,if_pos (by omega),HX.out]
     ·rw [if_neg e]
      by_cases h1:j < q
      ·rw [if_pos h1,if_pos (by omega)]
      ·rw [if_neg h1,if_neg (by omega)])
   case measure => simp [intOf]; omega
  ·have HF':Hid (I16 wr b (fun j => f j ^^^ strB k j)):=hi.congr (fun j hj => by rw [if_pos (by omega)])
   have hq':¬ (q:Int) < 16:=by omega
   clear hi ho HJ
   generalize (q:Int) = qq at *
   go_wp2
   go_end0
   exact ⟨rfl,HF'.out,HO.out⟩
set_option maxRecDepth 100000 in
set_option maxHeartbeats 1000000 in
theorem l01Swap_any (b c t:Nat) (f g:Nat→Nat) (hf:∀ j,j < 16→f j < 256) (hbt:b≠t) (w:World) (h:I16 w b f) (ht:∀ x,x < 256→w.cell? ⟨t,x,none⟩ = some (.int .i64 (g x:Nat))) :
  Calls Tryz.prog 164 #[.slice (some ⟨b,0,none⟩) 16 c,.slice (some ⟨t,0,none⟩) 256 256] w fun e w' => e = .returned (.tuple #[])∧I16 w' b (fun j => g (f j))∧OnlyB b w w':=by
 have HI:Hid (I16 w b f):=h
 have HF:Hid (∀ j,j < 16→f j < 256):=hf
 have HT:Hid (∀ x,x < 256→w.cell? ⟨t,x,none⟩ = some (.int .i64 (g x:Nat))):=ht
 have htl:t < w.heap.size:=cellBlockK (ht 0 (by omega))
 clear h hf ht
 go_enter Tryz.func164,Tryz.ntmps164
 go_wp2
 go_loopw [4] (fun i wr => ∃ q:Nat,q≤16∧i = .int .i64 q∧I16 wr b (fun j => if j < q then g (f j) else f j)∧OnlyB b w wr) (fun i _ => 16 - (intOf i).toNat)
 case atStart => exact ⟨0,by omega,rfl,HI.out.congr (fun j _ => by rw [if_neg (by omega)]),OnlyB.refl _ _⟩
 case round =>
  obtain ⟨q,hq,rfl,hi,ho⟩:=hrel
  have HJ:Hid (I16 wr b (fun j => if j < q then g (f j) else f j)):=hi
  have HO:Hid (OnlyB b w wr):=ho
  by_cases hlt:q < 16
  ·have c1:wr.cell? ⟨b,q,none⟩ = some (.int .i64 (f q:Nat)):=by have:=(hi q hlt).1; simp only [] at this; rw [if_neg (by omega)] at this; exact this
   have f1:=(hi q hlt).2
   have lf:=HF.out q hlt
   have c2:wr.cell? ⟨t,f q,none⟩ = some (.int .i64 (g (f q):Nat)):=by
    rw [World.cell?_of_block (w:=w) (ho.block t htl (fun e => hbt e.symm))]; exact HT.out _ lf
   have x1:(q:Int) < 16:=by omega
   have x2:(f q:Int) < 256:=by omega
   clear hi ho
   generalize hX:g (f q) = X at *
   have HX:Hid (g (f q) = X):=hX
   clear hX
   generalize f q = Z at c1 c2 lf x2
   go_wp2
   go_roundw
   case rel =>
    refine ⟨q + 1,by omega,by go_num,?_,HO.out.setCell q _⟩
    exact (HJ.out.set q X).congr (fun j hj => by
     by_cases e:j = q
     ·subst e; rw [if_pos rfl,if_pos (by omega),HX.out]
     ·rw [if_neg e]
      by_cases h1:j < q
      ·rw [if_pos h1,if_pos (by omega)]
      ·rw [if_neg h1,if_neg (by omega)])
   case measure => simp [intOf]; omega
  ·have HF':Hid (I16 wr b (fun j => g (f j))):=hi.congr (fun j hj => by rw [if_pos (by omega)])
   have hq':¬ (q:Int) < 16:=by omega
   clear hi ho HJ
   generalize (q:Int) = qq at *
   go_wp2
   go_end0
   exact ⟨rfl,HF'.out,HO.out⟩
theorem mkI16 (w:World):(Instr.makeSlice 71 (.int .i64 16) (.int .i64 16)).run Tryz.prog w = .ok (.slice (some ⟨w.heap.size,0,none⟩) 16 16) (w.alloc (.cells (madeCells #[.int .i64 0] 16) 3)) :=
 run_make_row' 71 3 (.int .i64 0) 8 Tryz.underlying71 Tryz.infoInt rfl .i64 .i64 16 (by omega) (by omega) w
theorem I16.made (w:World):I16 (w.alloc (.cells (madeCells #[.int .i64 0] 16) 3)) w.heap.size (fun _ => 0):=fun j hj => by
 have h:=World.rowIs_made w (.int .i64 0) 16 3
 exact ⟨h.cell hj,h.frozen j⟩
theorem Tryz.infoU8:(Tryz.prog.info? 5).map (fun i => (i.zero,i.size,i.bytes)) = some (some (.int .u8 0),1,1):=by kernel_rfl
set_option maxRecDepth 100000 in
set_option maxHeartbeats 1000000 in
theorem l01Text_any (b c:Nat) (f:Nat→Nat) (hf:∀ j,j < 16→f j < 256) (w:World) (h:I16 w b f) :
  Calls Tryz.prog 167 #[.slice (some ⟨b,0,none⟩) 16 c] w fun e w' => e = .returned (.string (kstr f 0 16))∧Below w.heap.size w w':=by
 have HC:Hid (I16 w b f):=h
 have HF:Hid (∀ j,j < 16→f j < 256):=hf
 clear h hf
 obtain ⟨i0,hi,hz0,hz1,hz2⟩:=info_parts Tryz.infoU8
 have HI:Hid (Tryz.prog.info? 5 = some i0∧i0.zero = some (.int .u8 0)∧i0.size = 1∧i0.bytes = 1):=⟨hi,hz0,hz1,hz2⟩
 clear hi hz0 hz1 hz2
 go_enter Tryz.func167,Tryz.ntmps167
 go_wp2
 go_loopw [3,4] (fun v i wr => ∃ k:Nat,k≤16∧i = .int .i64 k∧wr.ownsRow w.heap.size 5 1 v k ((List.range k).map fun j => .int .u8 (f j:Nat))∧Below w.heap.size w wr) (fun _ i _ => 16 - (intOf i).toNat)
 case atStart =>
  refine ⟨0,by omega,rfl,?_,(Below.refl _ _).alloc (Nat.le_refl _) _⟩
  exact ⟨rfl,.inr ⟨w.heap.size,0,#[],rfl,Nat.le_refl _,Deep.blk_alloc_new _ _,Nat.le_refl _,by simp [maxLen],rfl,rfl⟩⟩
 case round =>
  obtain ⟨k,hk,rfl,hown,hb⟩:=hrel
  have HO:Hid (wr.ownsRow w.heap.size 5 1 u3 k ((List.range k).map fun j => .int .u8 (f j:Nat))):=hown
  have HB:Hid (Below w.heap.size w wr):=hb
  by_cases hlt:k < 16
  ·have c1:wr.cell? ⟨b,k,none⟩ = some (.int .i64 (f k:Nat)):=by rw [hb.cell (p:=⟨b,k,none⟩) HC.out.lt]; exact (HC.out k hlt).1
   have lf:=HF.out k hlt
   have y0:IntKind.u8.wrap (f k:Int) = (f k:Int):=u8in _ lf
   have hsz:=HB.out.size
   have x1:(k:Int) < 16:=by omega
   clear hown hb
   generalize hX:f k = X at *
   have HX:Hid (f k = X):=hX
   clear hX
   go_wp2_with (at_builtin; refine wpList_append_own _ rfl _ _ 68 rfl w.heap.size 5 i0 (.int .u8 0) 1 1 Tryz.underlying68 HI.out.1 HI.out.2.1 HI.out.2.2.1 HI.out.2.2.2 rfl (by decide) u3 k _ rfl (HO.out.alloc _) ⟨wr.heap.size,0,none⟩ 1 1 [.int .u8 (X:Nat)] rfl rfl (one_newK _ _ _) (one_oneK _ rfl) (by unfold maxLen; omega) (by omega) (by simp; omega) ?_)
   intro v' w1 hown' hgrow _
   have HO1:Hid (w1.ownsRow w.heap.size 5 1 v' (k + 1) ((List.range (k + 1)).map fun j => .int .u8 (f j:Nat))):=by
    rw [List.range_succ,List.map_append]
    have e:=HX.out
    subst e
    exact hown'
   have HB1:Hid (Below w.heap.size w w1):=(HB.out.alloc hsz _).grown hgrow (by simp; omega) (fun b hb => (HO.out.lt b hb).1)
   clear hown' hgrow hsz HO HB
   go_wp2
   go_roundw
   case rel => exact ⟨k + 1,by omega,by go_num,HO1.out,HB1.out⟩
   case measure => simp [intOf]; omega
  ·obtain rfl:k = 16:=by omega
   obtain ⟨g,cap,hg1,hg2,rfl,hcell⟩:=owned_open HO.out (by omega)
   have hcv:(convert 68 9 (.slice (some ⟨g,0,none⟩) 16 cap)).run Tryz.prog wr = .ok (.string (kstr f 0 16)) wr:=by
    refine run_convert_bytes_arg wr 68 5 Tryz.underlying68 Tryz.underlying5 g 0 16 cap ((List.range 16).map fun i => ((f (0 + i):Nat):Int)) (by simp) (fun i hi => ?_) 9 Tryz.underlying9
    rw [Nat.zero_add,hcell i hi]
    simp [hi]
   clear hcell hown hb HO
   go_wp2
   go_ret
   exact ⟨rfl,HB.out⟩
set_option maxRecDepth 100000 in
set_option maxHeartbeats 1000000 in
theorem l01Shift_any (b c:Nat) (f:Nat→Nat) (w:World) (h:I16 w b f) :
  Calls Tryz.prog 165 #[.slice (some ⟨b,0,none⟩) 16 c,.int .i64 1] w fun e w' => (∃ L,w.heap.size≤L∧e = .returned (.slice (some ⟨L,0,none⟩) 16 16)∧I16 w' L (fun j => f (Gf.ord j)))∧Below w.heap.size w w':=by
 have HC:Hid (I16 w b f):=h
 have hbl:b < w.heap.size:=h.lt
 clear h
 have mk:=mkI16
 have M0:Hid (I16 (w.alloc (.cells (madeCells #[.int .i64 0] 16) 3)) w.heap.size (fun _ => 0)):=I16.made w
 have B0:Hid (Below w.heap.size w (w.alloc (.cells (madeCells #[.int .i64 0] 16) 3))):=(Below.refl _ _).alloc (Nat.le_refl _) _
 go_enter Tryz.func165,Tryz.ntmps165
 go_wp2
 clear mk
 generalize w.alloc (.cells (madeCells #[.int .i64 0] 16) 3) = wz at *
 go_loopw [6] (fun i wr => ∃ q:Nat,q≤4∧i = .int .i64 q∧I16 wr w.heap.size (fun j => if j < 4 * q then f (Gf.ord j) else 0)∧Below w.heap.size w wr) (fun i _ => 4 - (intOf i).toNat)
 case atStart => exact ⟨0,by omega,rfl,M0.out.congr (fun j _ => by rw [if_neg (by omega)]),B0.out⟩
 case round =>
  clear M0 B0
  obtain ⟨q,hq,rfl,hi,hb⟩:=hrel
  have HJ:Hid (I16 wr w.heap.size (fun j => if j < 4 * q then f (Gf.ord j) else 0)):=hi
  have HB:Hid (Below w.heap.size w wr):=hb
  clear hi hb
  by_cases hlt:q < 4
  ·go_wp2
   go_loopw [7] (fun i wr => ∃ r:Nat,r≤4∧i = .int .i64 r∧I16 wr w.heap.size (fun j => if j < 4 * q + r then f (Gf.ord j) else 0)∧Below w.heap.size w wr) (fun i _ => 4 - (intOf i).toNat)
   case atStart => exact ⟨0,by omega,rfl,HJ.out,HB.out⟩
   case round =>
    clear HJ HB
    obtain ⟨r,hr,rfl,hi,hb⟩:=hrel
    have HJ:Hid (I16 wr w.heap.size (fun j => if j < 4 * q + r then f (Gf.ord j) else 0)):=hi
    have HB:Hid (Below w.heap.size w wr):=hb
    by_cases hr4:r < 4
    ·have eo:Gf.ord (4 * q + r) = 4 * ((q + r + 16) % 4) + r:=by unfold Gf.ord; omega
     have hol:4 * ((q + r + 16) % 4) + r < 16:=by omega
     have c0:wr.cell? ⟨b,4 * ((q + r + 16) % 4) + r,none⟩ = some (.int .i64 (f (Gf.ord (4 * q + r)):Nat)):=by
      rw [eo,hb.cell (p:=⟨b,_,none⟩) hbl]; exact (HC.out _ hol).1
     have c1:=(hi (4 * q + r) (by omega)).1
     have f1:=(hi (4 * q + r) (by omega)).2
     have et:((q:Int) + (r:Int) + 16).tmod 4 = (((q + r + 16) % 4:Nat):Int):=(Int.ofNat_tmod (q + r + 16) 4).symm
     have em:((q:Int) + (r:Int) + 16) % 4 = (((q + r + 16) % 4:Nat):Int):=by omega
     have em2:((q:Int) + (r:Int)) % 4 = (((q + r + 16) % 4:Nat):Int):=by omega
     have hM:(q + r + 16) % 4 < 4:=Nat.mod_lt _ (by omega)
     clear hi hb eo
     generalize hX:f (Gf.ord (4 * q + r)) = X at *
     have HX:Hid (f (Gf.ord (4 * q + r)) = X):=hX
     clear hX
     generalize (q + r + 16) % 4 = M at *
     have x1:(r:Int) < 4:=by omega
     have x2:(q:Int) < 4:=by omega
     go_wp2
     go_roundw
     case rel =>
      refine ⟨r + 1,by omega,by go_num,?_,HB.out.setCell (p:=⟨w.heap.size,4 * q + r,none⟩) (Nat.le_refl _) _⟩
      exact (HJ.out.set (4 * q + r) X).congr (fun j hj => by
       by_cases e:j = 4 * q + r
       ·subst e; rw [if_pos rfl,if_pos (by omega),HX.out]
       ·rw [if_neg e]
        by_cases h1:j < 4 * q + r
        ·rw [if_pos h1,if_pos (by omega)]
        ·rw [if_neg h1,if_neg (by omega)])
     case measure => simp [intOf]; omega
    ·have HJ':Hid (I16 wr w.heap.size (fun j => if j < 4 * (q + 1) then f (Gf.ord j) else 0)):=hi.congr (fun j hj => by rw [show 4 * q + r = 4 * (q + 1) from by omega])
     have hr':¬ (r:Int) < 4:=by omega
     clear hi hb HJ
     generalize (r:Int) = rr at *
     go_wp2
     go_roundw
     case rel => exact ⟨q + 1,by omega,by go_num,HJ'.out,HB.out⟩
     case measure => simp [intOf]; omega
  ·have HJ':Hid (I16 wr w.heap.size (fun j => f (Gf.ord j))):=HJ.out.congr (fun j hj => by rw [if_pos (by omega)])
   have hq':¬ (q:Int) < 4:=by omega
   clear HJ
   generalize (q:Int) = qq at *
   go_wp2
   go_ret
   exact ⟨⟨w.heap.size,Nat.le_refl _,rfl,HJ'.out⟩,HB.out⟩
theorem two_keep {w:World} {b L i j k:Nat} {x y:Option Value} {v:Value} (h:w.cell? ⟨b,i,none⟩ = x∧w.cell? ⟨b,j,none⟩ = y) (hne:b≠L):(w.setCell ⟨L,k,none⟩ v).drew.cell? ⟨b,i,none⟩ = x∧(w.setCell ⟨L,k,none⟩ v).drew.cell? ⟨b,j,none⟩ = y:=by
 show (w.setCell ⟨L,k,none⟩ v).cell? ⟨b,i,none⟩ = x∧(w.setCell ⟨L,k,none⟩ v).cell? ⟨b,j,none⟩ = y
 rw [World.cell?_setCell_other _ _ _ _ (by intro e; cases e; exact hne rfl),World.cell?_setCell_other _ _ _ _ (by intro e; cases e; exact hne rfl)]
 exact h
namespace Gf
theorem fast_eq (x a b c d e:Nat):(x ^^^ (((a ^^^ b) ^^^ c) ^^^ d)) ^^^ e = ((((a ^^^ b) ^^^ c) ^^^ d) ^^^ x) ^^^ e:=by rw [Nat.xor_comm x]
end Gf
set_option maxRecDepth 100000 in
set_option maxHeartbeats 2000000 in
theorem l01Fast_any (b c:Nat) (f:Nat→Nat) (hf:∀ j,j < 16→f j < 256) (w:World) (h:I16 w b f) :
  Calls Tryz.prog 166 #[.slice (some ⟨b,0,none⟩) 16 c] w fun e w' => (∃ L,w.heap.size≤L∧e = .returned (.slice (some ⟨L,0,none⟩) 16 16)∧I16 w' L (Gf.mixS f))∧Below w.heap.size w w':=by
 have HC:Hid (I16 w b f):=h
 have HF:Hid (∀ j,j < 16→f j < 256):=hf
 have hbl:b < w.heap.size:=h.lt
 clear h hf
 have mk:=mkI16
 have M0:Hid (I16 (w.alloc (.cells (madeCells #[.int .i64 0] 16) 3)) w.heap.size (fun _ => 0)):=I16.made w
 have B0:Hid (Below w.heap.size w (w.alloc (.cells (madeCells #[.int .i64 0] 16) 3))):=(Below.refl _ _).alloc (Nat.le_refl _) _
 go_enter Tryz.func166,Tryz.ntmps166
 go_wp2
 clear mk
 generalize w.alloc (.cells (madeCells #[.int .i64 0] 16) 3) = wz at *
 go_loopw [4] (fun i wr => ∃ q:Nat,q≤4∧i = .int .i64 ((4 * q:Nat):Int)∧I16 wr w.heap.size (fun j => if j < 4 * q then Gf.mixS f j else 0)∧Below w.heap.size w wr) (fun i _ => 16 - (intOf i).toNat)
 case atStart => exact ⟨0,by omega,rfl,M0.out.congr (fun j _ => by rw [if_neg (by omega)]),B0.out⟩
 case round =>
  clear M0 B0
  obtain ⟨q,hq,rfl,hi,hb⟩:=hrel
  have HJ:Hid (I16 wr w.heap.size (fun j => if j < 4 * q then Gf.mixS f j else 0)):=hi
  have HB:Hid (Below w.heap.size w wr):=hb
  clear hi
  by_cases hlt:q < 4
  ·have CELL:Hid (∀ j,j < 16→∀ w',Below w.heap.size w w'→w'.cell? ⟨b,j,none⟩ = some (.int .i64 (f j:Nat))):=fun j hj w' h => by rw [h.cell (p:=⟨b,j,none⟩) hbl]; exact (HC.out j hj).1
   have MX:Hid (∀ r,r < 4→Gf.mixS f (4 * q + r) = (f (4 * q + r) ^^^ (((f (4 * q) ^^^ f (4 * q + 1)) ^^^ f (4 * q + 2)) ^^^ f (4 * q + 3))) ^^^ Gf.dbl (f (4 * q + r) ^^^ f (4 * q + (r + 1) % 4))):=fun r hr => by
    rw [Gf.fast_eq,Gf.mixS,show (4 * q + r) / 4 * 4 = 4 * q from by omega,show (4 * q + r) % 4 = r from by omega]; rfl
   have hO4:4 * q + 4≤16:=by omega
   generalize hO:4 * q = O at *
   have HO:Hid (4 * q = O):=hO
   have c0:=CELL.out O (by omega) wr hb
   have c1:=CELL.out (O + 1) (by omega) wr hb
   have c2:=CELL.out (O + 2) (by omega) wr hb
   have c3:=CELL.out (O + 3) (by omega) wr hb
   have l0:=HF.out O (by omega)
   have l1:=HF.out (O + 1) (by omega)
   have l2:=HF.out (O + 2) (by omega)
   have l3:=HF.out (O + 3) (by omega)
   have m1:=Gf.xor_lt l0 l1
   have m2:=Gf.xor_lt m1 l2
   have m3:=Gf.xor_lt m2 l3
   have y1:bits .xor .i64 (f O:Int) (f (O + 1):Int) = ((f O ^^^ f (O + 1):Nat):Int):=i64_xor_nat _ _ (by omega) (by omega)
   have y2:bits .xor .i64 ((f O ^^^ f (O + 1):Nat):Int) (f (O + 2):Int) = (((f O ^^^ f (O + 1)) ^^^ f (O + 2):Nat):Int):=i64_xor_nat _ _ (by omega) (by omega)
   have y3:bits .xor .i64 (((f O ^^^ f (O + 1)) ^^^ f (O + 2):Nat):Int) (f (O + 3):Int) = ((((f O ^^^ f (O + 1)) ^^^ f (O + 2)) ^^^ f (O + 3):Nat):Int):=i64_xor_nat _ _ (by omega) (by omega)
   have b0:(O:Int) < 16:=by omega
   have b1:(O:Int) + 1 < 16:=by omega
   have b2:(O:Int) + 2 < 16:=by omega
   have b3:(O:Int) + 3 < 16:=by omega
   have p0:(0:Int)≤(O:Int):=by omega
   have p1:(0:Int)≤(O:Int) + 1:=by omega
   have p2:(0:Int)≤(O:Int) + 2:=by omega
   have p3:(0:Int)≤(O:Int) + 3:=by omega
   have t1:((O:Int) + 1).toNat = O + 1:=by omega
   have t2:((O:Int) + 2).toNat = O + 2:=by omega
   have t3:((O:Int) + 3).toNat = O + 3:=by omega
   have v1:IntKind.i64.wrap ((O:Int) + 1) = O + 1:=IntWalk.i64_in _ ⟨by omega,by omega⟩
   have v2:IntKind.i64.wrap ((O:Int) + 2) = O + 2:=IntWalk.i64_in _ ⟨by omega,by omega⟩
   have v3:IntKind.i64.wrap ((O:Int) + 3) = O + 3:=IntWalk.i64_in _ ⟨by omega,by omega⟩
   generalize hALL:(((f O ^^^ f (O + 1)) ^^^ f (O + 2)) ^^^ f (O + 3)) = ALL at *
   clear hb hALL
   go_wp2
   go_region_held3 (fun w' => w'.cell? ⟨b,O,none⟩ = some (.int .i64 (f O:Nat))∧w'.cell? ⟨b,O + 1,none⟩ = some (.int .i64 (f (O + 1):Nat))∧w'.cell? ⟨b,O + 2,none⟩ = some (.int .i64 (f (O + 2):Nat))∧w'.cell? ⟨b,O + 3,none⟩ = some (.int .i64 (f (O + 3):Nat))) (go_keep) (fail)
   have HJ1:Hid (I16 wr.drew w.heap.size (fun j => if j < O then Gf.mixS f j else 0)):=HJ.out
   have HB1:Hid (Below w.heap.size w wr.drew):=HB.out.drew
   clear HJ HB c0 c1 c2 c3 y1 y2 y3 l0 l1 l2 l3 m1 m2 t1 t2 t3 v1 v2 v3 b1 b2 b3 p1 p2 p3
   generalize wr.drew = wd at *
   generalize f O ^^^ f (O + 1) ^^^ f (O + 2) = U3 at *
   generalize f O ^^^ f (O + 1) = U2 at *
   go_wp2
   go_loopw [6] (fun i wq => ∃ r:Nat,r≤4∧i = .int .i64 r∧I16 wq w.heap.size (fun j => if j < O + r then Gf.mixS f j else 0)∧Below w.heap.size w wq) (fun i _ => 4 - (intOf i).toNat)
   case atStart => exact ⟨0,by omega,rfl,HJ1.out,HB1.out⟩
   case round =>
    clear HJ1 HB1
    obtain ⟨r,hr,rfl,hi,hb⟩:=hrel
    have HJ:Hid (I16 wr w.heap.size (fun j => if j < O + r then Gf.mixS f j else 0)):=hi
    have HB:Hid (Below w.heap.size w wr):=hb
    by_cases hr4:r < 4
    ·have hM:(r + 1) % 4 < 4:=Nat.mod_lt _ (by omega)
     have cx:=CELL.out (O + r) (by omega) wr hb
     have cy:=CELL.out (O + (r + 1) % 4) (by omega) wr hb
     have co:wr.cell? ⟨w.heap.size,O + r,none⟩ = some (.int .i64 ((0:Nat):Int)):=by have:=(hi (O + r) (by omega)).1; simp only [] at this; rw [if_neg (by omega)] at this; exact this
     have fo:=(hi (O + r) (by omega)).2
     have lx:=HF.out (O + r) (by omega)
     have ly:=HF.out (O + (r + 1) % 4) (by omega)
     have lxy:=Gf.xor_lt lx ly
     have lxa:=Gf.xor_lt lx m3
     have ld:=Gf.dbl_lt _ lxy
     have e1:bits .xor .i64 (f (O + r):Int) (ALL:Int) = ((f (O + r) ^^^ ALL:Nat):Int):=i64_xor_nat _ _ (by omega) (by omega)
     have e2:bits .xor .i64 (f (O + r):Int) (f (O + (r + 1) % 4):Int) = ((f (O + r) ^^^ f (O + (r + 1) % 4):Nat):Int):=i64_xor_nat _ _ (by omega) (by omega)
     have e3:bits .xor .i64 ((f (O + r) ^^^ ALL:Nat):Int) (Gf.dbl (f (O + r) ^^^ f (O + (r + 1) % 4)):Int) = ((Gf.mixS f (O + r):Nat):Int):=by
      rw [i64_xor_nat _ _ (by omega) (by omega),MX.out r hr4]
     have DB:Hid (∀ w:World,Calls Tryz.prog 159 #[.int .i64 ((f (O + r) ^^^ f (O + (r + 1) % 4):Nat):Int)] w fun e w' => e = .returned (.int .i64 (Gf.dbl (f (O + r) ^^^ f (O + (r + 1) % 4)):Nat))∧w' = w):=l01Double_any _ lxy
     have et:((r:Int) + 1).tmod 4 = (((r + 1) % 4:Nat):Int):=(Int.ofNat_tmod (r + 1) 4).symm
     have em:((r:Int) + 1) % 4 = (((r + 1) % 4:Nat):Int):=by omega
     have w1:IntKind.i64.wrap ((O:Int) + (r:Int)) = O + r:=IntWalk.i64_in _ ⟨by omega,by omega⟩
     have w2:IntKind.i64.wrap ((O:Int) + (((r + 1) % 4:Nat):Int)) = O + ((r + 1) % 4:Nat):=IntWalk.i64_in _ ⟨by omega,by omega⟩
     have w3:IntKind.i64.wrap ((r:Int) + 1) = r + 1:=IntWalk.i64_in _ ⟨by omega,by omega⟩
     have q1:(0:Int)≤(O:Int) + (r:Int):=by omega
     have q2:(O:Int) + (r:Int) < 16:=by omega
     have q3:((O:Int) + (r:Int)).toNat = O + r:=by omega
     have q4:(0:Int)≤(O:Int) + (((r + 1) % 4:Nat):Int):=by omega
     have q5:(O:Int) + (((r + 1) % 4:Nat):Int) < 16:=by omega
     have q6:((O:Int) + (((r + 1) % 4:Nat):Int)).toNat = O + (r + 1) % 4:=by omega
     have hne:b≠w.heap.size:=by omega
     have x1:(r:Int) < 4:=by omega
     clear hi hb m3
     generalize Gf.dbl (f (O + r) ^^^ f (O + (r + 1) % 4)) = DD at *
     generalize f (O + r) ^^^ f (O + (r + 1) % 4) = XY at *
     generalize f (O + r) ^^^ ALL = XA at *
     generalize hG:Gf.mixS f (O + r) = G at *
     have HG:Hid (Gf.mixS f (O + r) = G):=hG
     clear hG
     generalize f (O + (r + 1) % 4) = Y at *
     generalize f (O + r) = X at *
     generalize (r + 1) % 4 = M at *
     go_wp2_with fail
     go_region_held3 (fun w' => w'.cell? ⟨b,O + r,none⟩ = some (.int .i64 (X:Nat))∧w'.cell? ⟨b,O + M,none⟩ = some (.int .i64 (Y:Nat))) (first | exact two_keep ⟨cx,cy⟩ hne | go_keep) ((first | (go_at_call 159; refine (DB.out _).mono ?_; rintro e w' ⟨rfl,rfl⟩)))
     go_wp2
     go_roundw
     case rel =>
      refine ⟨r + 1,by omega,by go_num,?_,(HB.out.setCell (p:=⟨w.heap.size,O + r,none⟩) (Nat.le_refl _) _).drew⟩
      exact ((HJ.out.set (O + r) G).drew).congr (fun j hj => by
       by_cases e:j = O + r
       ·subst e; rw [if_pos rfl,if_pos (by omega),HG.out]
       ·rw [if_neg e]
        by_cases h1:j < O + r
        ·rw [if_pos h1,if_pos (by omega)]
        ·rw [if_neg h1,if_neg (by omega)])
     case measure => simp [intOf]; omega
    ·have HJ':Hid (I16 wr w.heap.size (fun j => if j < 4 * (q + 1) then Gf.mixS f j else 0)):=hi.congr (fun j hj => by rw [show O + r = 4 * (q + 1) from by have:=HO.out; omega])
     have hr':¬ (r:Int) < 4:=by omega
     clear hi hb HJ
     generalize (r:Int) = rr at *
     go_wp2
     go_roundw
     case rel => exact ⟨q + 1,by omega,numEqK (by have:=HO.out; omega),HJ'.out,HB.out⟩
     case measure => simp [intOf]; omega
  ·have HJ':Hid (I16 wr w.heap.size (Gf.mixS f)):=HJ.out.congr (fun j hj => by rw [if_pos (by omega)])
   have hq':¬ ((4 * q:Nat):Int) < 16:=by omega
   clear HJ hb
   generalize ((4 * q:Nat):Int) = qq at *
   go_wp2
   go_ret
   exact ⟨⟨w.heap.size,Nat.le_refl _,rfl,HJ'.out⟩,HB.out⟩
end Go.Proofs.YtcpjeopnhgoonaaGreatDoor
namespace Go.Proofs.YtcpjeopnhgoonaaGreatDoor
open Go.ChangeShapes Go.WideShapes Go.ChangeAt Go.RowKit
set_option linter.unusedVariables false
theorem strs_of_owned {w:World} {base:Nat} {v:Value} {n:Nat} {f:Nat→ByteArray} (h:w.ownsRow base 9 1 v n ((List.range n).map fun j => .string (f j))) (hn:0 < n) :
  ∃ p c,v = .slice p n c∧Strs w p n f:=by
 obtain ⟨g,cap,_,_,rfl,hc⟩:=owned_open h hn
 exact ⟨_,cap,rfl,fun i hi => ⟨g,0,rfl,by rw [Nat.zero_add]; exact hc i hi⟩⟩
theorem Strs.onlyB {w w':World} {b pb po n:Nat} {f:Nat→ByteArray} (h:Strs w (some ⟨pb,po,none⟩) n f) (ho:OnlyB b w w') (hne:pb≠b):Strs w' (some ⟨pb,po,none⟩) n f:=fun i hi => by
 obtain ⟨b1,o1,ha,hc⟩:=h i hi
 cases ha
 exact ⟨pb,po,rfl,by rw [World.cell?_of_block (w:=w) (ho.block pb (strBlock hc) hne)]; exact hc⟩
theorem strB_key {W:Nat→Nat} (hW:∀ j,W j < 256) (i j:Nat) (hj:j < 16):strB (kstr W (i * 16) 16) j = Gf.keyAt W i j:=strB_kstr W (i * 16) 16 j (hW _) hj
set_option maxRecDepth 100000 in
set_option maxHeartbeats 2000000 in
theorem l01Encrypt_any (pb po ck t m:Nat) (W:Nat→Nat) (hW:∀ j,W j < 256) (hm:1≤m) (hm':m≤14) (s:ByteArray) (hs:s.size = 16) (w:World)
  (hk:Strs w (some ⟨pb,po,none⟩) (m + 1) (fun j => kstr W (j * 16) 16)) (ht:∀ x,x < 256→w.cell? ⟨t,x,none⟩ = some (.int .i64 (Gf.sub x:Nat))) :
  Calls Tryz.prog 122 #[.slice (some ⟨pb,po,none⟩) (m + 1) ck,.slice (some ⟨t,0,none⟩) 256 256,.string s] w fun e w' => e = .returned (.string (kstr (Gf.enc W m (strB s)) 0 16))∧Below w.heap.size w w':=by
 obtain ⟨_,_,hab,hcells⟩:=hk.opened (by omega)
 cases hab
 have HK:Hid (∀ i,i < m + 1→w.cell? ⟨pb,po + i,none⟩ = some (.string (kstr W (i * 16) 16))):=hcells
 have HT:Hid (∀ x,x < 256→w.cell? ⟨t,x,none⟩ = some (.int .i64 (Gf.sub x:Nat))):=ht
 have HW:Hid (∀ j,W j < 256):=hW
 have hpl:pb < w.heap.size:=strBlock (hcells 0 (by omega))
 have htl:t < w.heap.size:=strBlock (ht 0 (by omega))
 have LE:Hid (∀ i j,j < 16→Gf.encTo W (strB s) i j < 256):=Gf.encTo_lt hW (fun j _ => strB_lt s j)
 have ST:Hid (∀ w:World,Calls Tryz.prog 162 #[.string s] w fun e w' => (∃ b c,w.heap.size≤b∧e = .returned (.slice (some ⟨b,0,none⟩) 16 c)∧I16 w' b (strB s))∧Below w.heap.size w w'):=l01State_any s hs
 have XO:Hid (∀ (i b c:Nat) (f:Nat→Nat) (w:World),(∀ j,j < 16→f j < 256)→I16 w b f→Calls Tryz.prog 163 #[.slice (some ⟨b,0,none⟩) 16 c,.string (kstr W (i * 16) 16)] w fun e w' => e = .returned (.tuple #[])∧I16 w' b (Gf.addK f (Gf.keyAt W i))∧OnlyB b w w'):=fun i b c f w hf h =>
  (l01Xor_any b c f hf (kstr W (i * 16) 16) (kstr_size _ _ _) w h).mono fun e w' ⟨he,hi,ho⟩ => ⟨he,hi.congr (fun j hj => by rw [strB_key hW i j hj]; rfl),ho⟩
 clear hk hcells ht hW hs
 go_enter Tryz.func122,Tryz.ntmps122
 go_wp2_with fail
 refine (ST.out _).mono ?_
 rintro e w1 ⟨⟨b,c,hb,rfl,hi⟩,hB⟩
 have c0:w1.cell? ⟨pb,po,none⟩ = some (.string (kstr W (0 * 16) 16)):=by rw [hB.cell (p:=⟨pb,po,none⟩) hpl]; exact HK.out 0 (by omega)
 have HI:Hid (I16 w1 b (strB s)):=hi
 have HB:Hid (Below w.heap.size w w1):=hB
 clear hi hB
 go_wp2_with fail
 refine (XO.out 0 b c _ _ (fun j _ => strB_lt s j) HI.out).mono ?_
 rintro e w2 ⟨rfl,hi,ho⟩
 have H0:Hid (∃ L c,w.heap.size≤L∧Value.slice (some ⟨b,0,none⟩) 16 c = .slice (some ⟨L,0,none⟩) 16 c∧I16 w2 L (Gf.encTo W (strB s) 0)∧Below w.heap.size w w2):=⟨b,c,hb,rfl,hi,HB.out.trans (ho.toBelow hb HB.out.size)⟩
 have HI2:Hid (I16 w2 b (Gf.encTo W (strB s) 0)):=hi
 have HB2:Hid (Below w.heap.size w w2):=HB.out.trans (ho.toBelow hb HB.out.size)
 clear hi ho HI HB c0 H0 ST
 go_wp2
 go_loopw [7,8] (fun v i wr => ∃ (k L cc:Nat),1≤k∧k≤m + 1∧i = .int .i64 k∧w.heap.size≤L∧v = .slice (some ⟨L,0,none⟩) 16 cc∧I16 wr L (if k≤m then Gf.encTo W (strB s) (k - 1) else Gf.enc W m (strB s))∧Below w.heap.size w wr) (fun _ i _ => m + 1 - (intOf i).toNat)
 case atStart => exact ⟨1,b,c,by omega,by omega,rfl,hb,rfl,by rw [if_pos hm]; exact HI2.out,HB2.out⟩
 case round =>
  clear HI2 HB2
  obtain ⟨k,L,cc,hk1,hk2,rfl,hL,rfl,hi,hB⟩:=hrel
  by_cases hlt:k < m + 1
  ·rw [if_pos (by omega)] at hi
   have ck:wr.cell? ⟨pb,po + k,none⟩ = some (.string (kstr W (k * 16) 16)):=by rw [hB.cell (p:=⟨pb,po + k,none⟩) hpl]; exact HK.out k hlt
   have HI:Hid (I16 wr L (Gf.encTo W (strB s) (k - 1))):=hi
   have HB:Hid (Below w.heap.size w wr):=hB
   have x1:(k:Int) < (m:Int) + 1:=by omega
   clear hi hB
   go_wp2_with fail
   refine (l01Swap_any L cc t _ Gf.sub (LE.out (k - 1)) (by omega) _ HI.out (fun x hx => by rw [HB.out.cell (p:=⟨t,x,none⟩) htl]; exact HT.out x hx)).mono ?_
   rintro e w3 ⟨rfl,hi3,ho3⟩
   have HI3:Hid (I16 w3 L (fun j => Gf.sub (Gf.encTo W (strB s) (k - 1) j))):=hi3
   have HB3:Hid (Below w.heap.size w w3):=HB.out.trans (ho3.toBelow hL HB.out.size)
   clear hi3 ho3 HI HB ck
   go_wp2_with fail
   refine (l01Shift_any L cc _ _ HI3.out).mono ?_
   rintro e w4 ⟨⟨L4,hL4,rfl,hi4⟩,hb4⟩
   have HI4:Hid (I16 w4 L4 (Gf.subTurn (Gf.encTo W (strB s) (k - 1)))):=hi4
   have HB4:Hid (Below w.heap.size w w4):=HB3.out.trans (hb4.mono HB3.out.size)
   have hL4':w.heap.size≤L4:=Nat.le_trans HB3.out.size hL4
   have LS:Hid (∀ j,j < 16→Gf.subTurn (Gf.encTo W (strB s) (k - 1)) j < 256):=fun j _ => Gf.subTurn_lt (LE.out (k - 1)) j
   clear hi4 hb4 HI3 HB3
   by_cases hkm:k < m
   ·have x2:(k:Int) < (m:Int):=by omega
    go_wp2_with fail
    refine (l01Fast_any L4 16 _ LS.out _ HI4.out).mono ?_
    rintro e w5 ⟨⟨L5,hL5,rfl,hi5⟩,hb5⟩
    have HI5:Hid (I16 w5 L5 (Gf.mixS (Gf.subTurn (Gf.encTo W (strB s) (k - 1))))):=hi5
    have HB5:Hid (Below w.heap.size w w5):=HB4.out.trans (hb5.mono HB4.out.size)
    have hL5':w.heap.size≤L5:=Nat.le_trans HB4.out.size hL5
    have ck:w5.cell? ⟨pb,po + k,none⟩ = some (.string (kstr W (k * 16) 16)):=by rw [HB5.out.cell (p:=⟨pb,po + k,none⟩) hpl]; exact HK.out k hlt
    clear hi5 hb5 HI4 HB4
    go_wp2_with fail
    refine (XO.out k L5 16 _ _ (Gf.mixS_lt LS.out) HI5.out).mono ?_
    rintro e w6 ⟨rfl,hi6,ho6⟩
    have HI6:Hid (I16 w6 L5 (Gf.encTo W (strB s) k)):=by
     obtain ⟨q,rfl⟩:∃ q,k = q + 1:=⟨k - 1,by omega⟩
     exact hi6
    have HB6:Hid (Below w.heap.size w w6):=HB5.out.trans (ho6.toBelow hL5' HB5.out.size)
    clear hi6 ho6 HI5 HB5 ck
    go_wp2
    go_roundw
    case rel => exact ⟨k + 1,L5,16,by omega,by omega,by go_num,hL5',rfl,by rw [if_pos (by omega)]; exact HI6.out,HB6.out⟩
    case measure => simp [intOf]; omega
   ·have hke:Hid (k = m):=by show k = m; omega
    have x2:¬ (k:Int) < (m:Int):=by omega
    have ck:w4.cell? ⟨pb,po + k,none⟩ = some (.string (kstr W (k * 16) 16)):=by rw [HB4.out.cell (p:=⟨pb,po + k,none⟩) hpl]; exact HK.out k hlt
    go_wp2_with fail
    refine (XO.out k L4 16 _ _ LS.out HI4.out).mono ?_
    rintro e w6 ⟨rfl,hi6,ho6⟩
    have HI6:Hid (I16 w6 L4 (Gf.enc W m (strB s))):=by
     have e:=hke.out
     subst e
     exact hi6
    have HB6:Hid (Below w.heap.size w w6):=HB4.out.trans (ho6.toBelow hL4' HB4.out.size)
    clear hi6 ho6 HI4 HB4 ck
    go_wp2
    go_roundw
    case rel => exact ⟨k + 1,L4,16,by omega,by omega,by go_num,hL4',rfl,by rw [if_neg (by omega)]; exact HI6.out,HB6.out⟩
    case measure => simp [intOf]; omega
  ·rw [if_neg (by omega)] at hi
   have HI:Hid (I16 wr L (Gf.enc W m (strB s))):=hi
   have HB:Hid (Below w.heap.size w wr):=hB
   have x1:¬ (k:Int) < (m:Int) + 1:=by omega
   clear hi hB
   go_wp2_with fail
   refine (l01Text_any L cc _ (fun j _ => Gf.enc_lt HW.out (fun j _ => strB_lt s j) j) _ HI.out).mono ?_
   rintro e w3 ⟨rfl,hb3⟩
   have HB3:Hid (Below w.heap.size w w3):=HB.out.trans (hb3.mono HB.out.size)
   clear hb3 HI HB
   go_wp2
   go_ret
   exact ⟨rfl,HB3.out⟩
def MK (w:World) (pb po tb m:Nat) (W:Nat→Nat):Prop:=Strs w (some ⟨pb,po,none⟩) (m + 1) (fun j => kstr W (j * 16) 16)∧w.rowIs tb 3 256 (fun j => .int .i64 (Gf.sub j:Nat))
theorem MK.lt {w:World} {pb po tb m:Nat} {W:Nat→Nat} (h:MK w pb po tb m W):pb < w.heap.size∧tb < w.heap.size:=by
 obtain ⟨b,o,ha,hc⟩:=h.1 0 (by omega)
 cases ha
 exact ⟨strBlock hc,h.2.lt⟩
theorem MK.below {w w':World} {pb po tb m:Nat} {W:Nat→Nat} (h:MK w pb po tb m W) (hb:Below w.heap.size w w'):MK w' pb po tb m W:=⟨h.1.below hb,h.2.of_block (hb.block tb h.2.lt)⟩
theorem MK.onlyB {w w':World} {b pb po tb m:Nat} {W:Nat→Nat} (h:MK w pb po tb m W) (ho:OnlyB b w w') (h1:pb≠b) (h2:tb≠b):MK w' pb po tb m W:=⟨h.1.onlyB ho h1,h.2.of_block (ho.block tb h.2.lt h2)⟩
theorem mEnc (pb po ck tb m:Nat) (W:Nat→Nat) (hW:∀ j,W j < 256) (hm:1≤m) (hm':m≤14) (s:ByteArray) (hs:s.size = 16) (w:World) (h:MK w pb po tb m W) :
  Calls Tryz.prog 122 #[.slice (some ⟨pb,po,none⟩) (m + 1) ck,.slice (some ⟨tb,0,none⟩) 256 256,.string s] w fun e w' => e = .returned (.string (kstr (Gf.enc W m (strB s)) 0 16))∧Below w.heap.size w w' :=
 l01Encrypt_any pb po ck tb m W hW hm hm' s hs w h.1 (fun _ hx => h.2.cell hx)
theorem mKeys (s:ByteArray) (kn:Nat) (hn:kn = 4∨kn = 8) (hs:s.size = kn * 4) (tb:Nat) (w:World) (h:w.rowIs tb 3 256 (fun j => .int .i64 (Gf.sub j:Nat))) :
  Calls Tryz.prog 121 #[.string s,.slice (some ⟨tb,0,none⟩) 256 256] w fun e w' => (∃ pb po ck,e = .returned (.slice (some ⟨pb,po,none⟩) (kn + 6 + 1) ck)∧MK w' pb po tb (kn + 6) (Gf.ws (strB s) kn (3 * kn + 28)))∧Below w.heap.size w w' :=
 (l01Keys_any s kn hn hs tb w h).mono fun e w' hh => by
  obtain ⟨⟨v,rfl,hown⟩,hB⟩:=hh
  obtain ⟨p,c,rfl,hstr⟩:=strs_of_owned hown (by omega)
  obtain ⟨pb,po,rfl,_⟩:=hstr.opened (by omega)
  exact ⟨⟨pb,po,c,rfl,hstr,h.of_block (hB.block tb h.lt)⟩,hB⟩
theorem OnlyB.drewS {b:Nat} {w w':World} (h:OnlyB b w w'):OnlyB b w w'.drew:=⟨h.os,h.tape,h.output,h.size,h.block⟩
theorem l02Four_any (k:Nat) (hk:k≤100000) (w:World) :
  Calls Tryz.prog 56 #[.int .i64 (k:Int)] w fun e w' => e = .returned (.slice (some ⟨w.heap.size,0,none⟩) 4 4)∧Own8 w' w.heap.size 4 (fun j => k / 256 ^ (3 - j) % 256)∧Below w.heap.size w w':=by
 go_enter Tryz.func56,Tryz.ntmps56
 go_wp2
 go_ret
 refine ⟨rfl,Own8.ofRow (World.rowIs_alloc w #[.int .u8 ((k:Int) / 16777216),.int .u8 ((k:Int) / 65536),.int .u8 ((k:Int) / 256 % 256),.int .u8 ((k:Int) % 256)] 5 _ (fun i hi => ?_)),(Below.refl _ _).alloc (Nat.le_refl _) _⟩
 have hi':i < 4:=by simpa using hi
 rcases (show i = 0∨i = 1∨i = 2∨i = 3 by omega) with rfl | rfl | rfl | rfl
 ·exact congrArg some (numEq8 (by show (k:Int) / 16777216 = ((k / 16777216 % 256:Nat):Int); omega))
 ·exact congrArg some (numEq8 (by show (k:Int) / 65536 = ((k / 65536 % 256:Nat):Int); omega))
 ·exact congrArg some (numEq8 (by show (k:Int) / 256 % 256 = ((k / 256 % 256:Nat):Int); omega))
 ·exact congrArg some (numEq8 (by show (k:Int) % 256 = ((k / 1 % 256:Nat):Int); omega))
theorem ctr_text (s:ByteArray) (hs:s.size = 12) (k:Nat):Gf.Same (strB (s ++ kstr (fun j => k / 256 ^ (3 - j) % 256) 0 4)) (ctrBlk (strB s) k):=fun j hj => by
 rw [strB_append,hs]
 unfold ctrBlk
 by_cases h:j < 12
 ·rw [if_pos h,if_pos h]
 ·rw [if_neg h,if_neg h,strB_kstr _ 0 4 _ (by rw [Nat.zero_add]; exact Nat.mod_lt _ (by omega)) (by omega),Nat.zero_add,show 3 - (j - 12) = 15 - j from by omega]
set_option maxRecDepth 100000 in
set_option maxHeartbeats 4000000 in
theorem l02CtrC_any (k s:ByteArray) (kn b o n c:Nat) (f:Nat→Nat) (hkn:kn = 4∨kn = 8) (hk:k.size = kn * 4) (hs:s.size = 12) (hn:n≤65536) (hf:∀ i,f i < 256) (w:World) (h:Code8 w (some ⟨b,o,none⟩) n f) :
  Calls Tryz.prog 84 #[.string k,.string s,.slice (some ⟨b,o,none⟩) n c] w fun e w' => RetC w w' e n (ctrF (Gf.ws (strB k) kn (3 * kn + 28)) (kn + 6) (strB s) f)∧Below w.heap.size w w':=by
 obtain ⟨i0,hi⟩:=info_parts Tryz.info8
 have HI:Hid (Tryz.prog.info? 5 = some i0∧i0.zero = some (.int .u8 0)∧i0.size = 1∧i0.bytes = 1):=hi
 have TA:Hid (∀ w:World,Calls Tryz.prog 120 #[] w fun e w' => (∃ b,w.heap.size≤b∧e = .returned (.slice (some ⟨b,0,none⟩) 256 256)∧w'.rowIs b 3 256 (fun j => .int .i64 (Gf.sub j:Nat)))∧Below w.heap.size w w'):=table_any
 have KE:Hid (∀ (tb:Nat) (w:World),w.rowIs tb 3 256 (fun j => .int .i64 (Gf.sub j:Nat))→Calls Tryz.prog 121 #[.string k,.slice (some ⟨tb,0,none⟩) 256 256] w fun e w' => (∃ pb po ck,e = .returned (.slice (some ⟨pb,po,none⟩) (kn + 6 + 1) ck)∧MK w' pb po tb (kn + 6) (Gf.ws (strB k) kn (3 * kn + 28)))∧Below w.heap.size w w'):=fun tb w h => mKeys k kn hkn hk tb w h
 have LW:Hid (∀ j,Gf.ws (strB k) kn (3 * kn + 28) j < 256):=Gf.ws_lt (strB_lt k) _
 generalize Gf.ws (strB k) kn (3 * kn + 28) = W at *
 obtain ⟨m,hm⟩:∃ m,m = kn + 6:=⟨_,rfl⟩
 have hm1:1≤m:=by omega
 have hm2:m≤14:=by omega
 rw [← hm] at KE ⊢
 have FO:Hid (∀ (k:Nat) (w:World),k≤100000→Calls Tryz.prog 56 #[.int .i64 (k:Int)] w fun e w' => e = .returned (.slice (some ⟨w.heap.size,0,none⟩) 4 4)∧Own8 w' w.heap.size 4 (fun j => k / 256 ^ (3 - j) % 256)∧Below w.heap.size w w'):=fun k w h => l02Four_any k h w
 have EN:Hid (∀ (pb po ck tb k:Nat) (w:World),MK w pb po tb m W→Calls Tryz.prog 122 #[.slice (some ⟨pb,po,none⟩) (m + 1) ck,.slice (some ⟨tb,0,none⟩) 256 256,.string (s ++ kstr (fun j => k / 256 ^ (3 - j) % 256) 0 4)] w fun e w' => e = .returned (.string (kstr (Gf.enc W m (ctrBlk (strB s) k)) 0 16))∧Below w.heap.size w w'):=fun pb po ck tb k w h =>
  (mEnc pb po ck tb m W LW.out hm1 hm2 _ (by rw [ByteArray.size_append,kstr_size,hs]) w h).mono fun e w' hh => ⟨by rw [hh.1,kstr_same (Gf.same_enc (ctr_text s hs k))],hh.2⟩
 have HC:Hid (Code8 w (some ⟨b,o,none⟩) n f):=h
 have HF:Hid (∀ i,f i < 256):=hf
 clear h hf hkn hk hm hi
 go_enter Tryz.func84,Tryz.ntmps84
 go_wp2_with fail
 refine (TA.out _).mono ?_
 rintro e w1 ⟨⟨tb,htb,rfl,hrow⟩,hB1⟩
 have HR:Hid (w1.rowIs tb 3 256 (fun j => .int .i64 (Gf.sub j:Nat))):=hrow
 have HB1:Hid (Below w.heap.size w w1):=hB1
 clear hrow hB1
 go_wp2_with fail
 refine (KE.out tb w1 HR.out).mono ?_
 rintro e w2 ⟨⟨pb,po,ck,rfl,hmk⟩,hB2⟩
 have HM:Hid (MK w2 pb po tb m W):=hmk
 have HB2:Hid (Below w.heap.size w w2):=HB1.out.trans (hB2.mono HB1.out.size)
 have HC2:Hid (Code8 w2 (some ⟨b,o,none⟩) n f):=HC.out.below HB2.out
 have hpt:=hmk.lt
 clear hmk hB2 HR HB1 HC TA KE
 go_wp2_with (at_builtin; refine wpList_append_own _ rfl _ _ 68 rfl w2.heap.size 5 i0 (.int .u8 0) 1 1 Tryz.underlying68 HI.out.1 HI.out.2.1 HI.out.2.2.1 HI.out.2.2.2 rfl (by decide) _ _ _ rfl (World.ownsRow_made w2 #[] 0 (Nat.le_refl _) (Nat.zero_le _) (by simp)) ⟨b,o,none⟩ n c (bv n f) rfl (by rw [bv_length,Nat.mul_one]) ?qc2 (bv_one n f) (by unfold maxLen; omega) (by omega) (by simp) ?_)
 case qc2 =>
  intro j u hj
  exact Lib.cell?_alloc_some _ (bv_news HC2.out j u hj)
 intro v' w3 hown hgrow hnil
 have BG:Below w2.heap.size w2 w3:=((Below.refl _ w2).alloc (Nat.le_refl _) _).grown hgrow (by simp) (by intro k hk; simp [Value.ownBlock] at hk; omega)
 obtain ⟨ob,C,⟨hob,hnC⟩,rfl,ho⟩:=ownC_of_own hown hnil
 have HO:Hid (OwnC C w3 ob n f):=ho
 have HM3:Hid (MK w3 pb po tb m W):=HM.out.below BG
 have HB3:Hid (Below w.heap.size w w3):=HB2.out.trans (BG.mono HB2.out.size)
 have hw2:=HB2.out.size
 have hp1:pb≠ob:=by have:=hpt.1; omega
 have hp2:tb≠ob:=by have:=hpt.2; omega
 have hwo:w.heap.size≤ob:=Nat.le_trans hw2 hob
 clear hown hgrow hnil ho BG HM HB2 HC2
 go_wp2_with fail
 go_loopw [10,11,12] (fun i _ _ wr => ∃ q:Nat,16 * q≤n + 15∧i = .int .i64 (16 * (q:Int))∧OwnC C wr ob n (fun x => if x < 16 * q then ctrF W m (strB s) f x else f x)∧MK wr pb po tb m W∧Below w.heap.size w wr) (fun i _ _ _ => n + 16 - (intOf i).toNat)
 case atStart => exact ⟨0,by omega,rfl,HO.out.congr (fun x hx => by rw [if_neg (by omega)]),HM3.out,HB3.out⟩
 case round =>
  clear HO HM3 HB3
  obtain ⟨q,hq,rfl,ho,hmk,hb⟩:=hrel
  have HO:Hid (OwnC C wr ob n (fun x => if x < 16 * q then ctrF W m (strB s) f x else f x)):=ho
  have HM:Hid (MK wr pb po tb m W):=hmk
  have HB:Hid (Below w.heap.size w wr):=hb
  clear ho hmk hb
  by_cases hlt:16 * q < n
  ·have g1:16 * (q:Int) < (n:Int):=by omega
   have g2:16 * (q:Int) / 16 = (q:Int):=by omega
   have g3:(16 * (q:Int)).tdiv 16 = (q:Int):=by rw [Int.tdiv_eq_ediv_of_nonneg (by omega)]; omega
   have ENq:Hid (∀ w:World,MK w pb po tb m W→Calls Tryz.prog 122 #[.slice (some ⟨pb,po,none⟩) (m + 1) ck,.slice (some ⟨tb,0,none⟩) 256 256,.string (s ++ kstr (fun j => (1 + q) / 256 ^ (3 - j) % 256) 0 4)] w fun e w' => e = .returned (.string (kstr (Gf.enc W m (ctrBlk (strB s) (1 + q))) 0 16))∧Below w.heap.size w w'):=fun w h => EN.out pb po ck tb (1 + q) w h
   have FOq:Hid (∀ w:World,Calls Tryz.prog 56 #[.int .i64 (1 + (q:Int))] w fun e w' => e = .returned (.slice (some ⟨w.heap.size,0,none⟩) 4 4)∧Own8 w' w.heap.size 4 (fun j => (1 + q) / 256 ^ (3 - j) % 256)∧Below w.heap.size w w'):=fun w => FO.out (1 + q) w (by omega)
   have sz4:((kstr (fun j => (1 + q) / 256 ^ (3 - j) % 256) 0 4).size:Int) = 4:=by rw [kstr_size]; rfl
   have szs:(s.size:Int) = 12:=by omega
   go_wp2_with fail
   refine (FOq.out _).mono ?_
   rintro e w4 ⟨rfl,hf4,hb4⟩
   have hcv:=kstr_of_code (c:=4) hf4.code
   have HO4:Hid (OwnC C w4 ob n (fun x => if x < 16 * q then ctrF W m (strB s) f x else f x)):=HO.out.below hb4
   have HM4:Hid (MK w4 pb po tb m W):=HM.out.below hb4
   have HB4:Hid (Below w.heap.size w w4):=HB.out.trans (hb4.mono HB.out.size)
   clear hf4 hb4 HO HM HB FOq
   generalize kstr (fun j => (1 + q) / 256 ^ (3 - j) % 256) 0 4 = T4 at *
   generalize wr.heap.size = fb at *
   go_wp2_with fail
   refine (ENq.out _ HM4.out).mono ?_
   rintro e w5 ⟨rfl,hb5⟩
   have HO5:Hid (OwnC C w5 ob n (fun x => if x < 16 * q then ctrF W m (strB s) f x else f x)):=HO4.out.below hb5
   have HM5:Hid (MK w5 pb po tb m W):=HM4.out.below hb5
   have HB5:Hid (Below w.heap.size w w5):=HB4.out.trans (hb5.mono HB4.out.size)
   clear hb5 HO4 HM4 HB4 ENq hcv sz4 szs
   obtain ⟨E,hE⟩:∃ E,E = Gf.enc W m (ctrBlk (strB s) (1 + q)):=⟨_,rfl⟩
   have HE:Hid (E = Gf.enc W m (ctrBlk (strB s) (1 + q))):=hE
   have lE:Hid (∀ j,E j < 256):=by show ∀ j,E j < 256; rw [hE]; exact fun j => Gf.enc_lt LW.out (fun j _ => ctrBlk_lt (strB_lt s) _ j) j
   rw [← hE]
   clear hE
   have EG:Hid (∀ j (h:j < (kstr E 0 16).size),((kstr E 0 16)[j].toNat:Int) = (E j:Nat)):=fun j h => by
    have:=kstr_get E 0 16 j (by rw [Nat.zero_add]; exact lE.out j) h
    rwa [Nat.zero_add] at this
   have sz16:Hid ((kstr E 0 16).size = 16):=kstr_size _ _ _
   generalize kstr E 0 16 = ES at *
   go_wp2_with fail
   go_loopw [12] (fun j wx => ∃ r:Nat,r≤16∧16 * q + r≤n∧j = .int .i64 (16 * (q:Int) + (r:Int))∧OwnC C wx ob n (fun x => if x < 16 * q + r then ctrF W m (strB s) f x else f x)∧OnlyB ob w5 wx) (fun j _ => n + 16 - (intOf j).toNat)
   case atStart => exact ⟨0,by omega,by omega,numEq8 (by omega),HO5.out.congr (fun x hx => by rw [Nat.add_zero]),OnlyB.refl _ _⟩
   case round =>
    clear HO5
    obtain ⟨r,hr,hrn,rfl,ho,hoB⟩:=hrel
    have HO:Hid (OwnC C wr ob n (fun x => if x < 16 * q + r then ctrF W m (strB s) f x else f x)):=ho
    have HOB:Hid (OnlyB ob w5 wr):=hoB
    by_cases hin:16 * q + r < n∧r < 16
    ·obtain ⟨hin1,hin2⟩:=hin
     have t1:16 * (q:Int) + (r:Int) < (n:Int):=by omega
     have t2:16 * (q:Int) + (r:Int) < 16 * (q:Int) + 16:=by omega
     have t0:(0:Int)≤16 * (q:Int) + (r:Int):=by omega
     have er:16 * (q:Int) + (r:Int) - 16 * (q:Int) = (r:Int):=by omega
     have et:(16 * (q:Int) + (r:Int)).toNat = 16 * q + r:=by omega
     have c1:=ho.cell hin1
     simp only [Nat.lt_irrefl,if_false] at c1
     have f1:=ho.frozen (16 * q + r)
     have hES:r < ES.size:=by rw [sz16.out]; exact hin2
     have t3:(0:Int)≤(r:Int):=by omega
     have t4:(r:Int) < (ES.size:Int):=by omega
     have eg:=EG.out r hES
     have l1:=HF.out (16 * q + r)
     have l2:=lE.out r
     have ex:bits .xor .u8 (f (16 * q + r):Int) (E r:Int) = ((f (16 * q + r) ^^^ E r:Nat):Int):=u8_xor_nat _ _ l1 l2
     have HV:Hid (∀ x,x < n→(if x = 16 * q + r then f (16 * q + r) ^^^ E r else if x < 16 * q + r then ctrF W m (strB s) f x else f x) = if x < 16 * q + (r + 1) then ctrF W m (strB s) f x else f x):=fun x hx => by
      by_cases e:x = 16 * q + r
      ·subst e
       rw [if_pos rfl,if_pos (by omega),HE.out]
       unfold ctrF ctrK
       rw [show (16 * q + r) / 16 + 1 = 1 + q from by omega,show (16 * q + r) % 16 = r from by omega]
      ·rw [if_neg e]
       by_cases e2:x < 16 * q + r
       ·rw [if_pos e2,if_pos (by omega)]
       ·rw [if_neg e2,if_neg (by omega)]
     obtain ⟨V,hV⟩:∃ V,V = f (16 * q + r) ^^^ E r:=⟨_,rfl⟩
     rw [← hV] at ex HV
     have HER:Hid (16 * (q:Int) + (r:Int) + 1 = 16 * (q:Int) + ((r + 1:Nat):Int)):=by show 16 * (q:Int) + (r:Int) + 1 = _; omega
     clear hV ho hoB HE EN FO LW
     generalize f (16 * q + r) = A1 at *
     generalize E r = A2 at *
     go_wp2_with fail
     go_region
     go_wp2
     go_roundw
     case rel =>
      refine ⟨r + 1,by omega,by omega,numEq8 HER.out,?_,?_⟩
      ·exact (HO.out.set (16 * q + r) V).congr HV.out
      ·exact (HOB.out.setCell _ _).drewS
     case measure => simp [intOf]; omega
    ·have HO2:Hid (OwnC C wr ob n (fun x => if x < 16 * (q + 1) then ctrF W m (strB s) f x else f x)):=ho.congr (fun x hx => by
      by_cases e:x < 16 * q + r
      ·rw [if_pos e,if_pos (by omega)]
      ·rw [if_neg e,if_neg (by omega)])
     have HM2:Hid (MK wr pb po tb m W):=HM5.out.onlyB hoB hp1 hp2
     have HB2:Hid (Below w.heap.size w wr):=HB5.out.trans (hoB.toBelow hwo HB5.out.size)
     have HQ:Hid (16 * (q:Int) + 16 = 16 * ((q + 1:Nat):Int)):=by show 16 * (q:Int) + 16 = _; omega
     clear ho hoB HO HOB HM5 HB5 EG lE HE EN FO
     by_cases hn1:16 * q + r < n
     ·have t1:16 * (q:Int) + (r:Int) < (n:Int):=by omega
      have t2:¬ 16 * (q:Int) + (r:Int) < 16 * (q:Int) + 16:=by omega
      go_wp2
      go_roundw
      case rel => exact ⟨q + 1,by omega,numEq8 HQ.out,HO2.out,HM2.out,HB2.out⟩
      case measure => simp [intOf]; omega
     ·have t1:¬ 16 * (q:Int) + (r:Int) < (n:Int):=by omega
      go_wp2
      go_roundw
      case rel => exact ⟨q + 1,by omega,numEq8 HQ.out,HO2.out,HM2.out,HB2.out⟩
      case measure => simp [intOf]; omega
  ·have g1:¬ 16 * (q:Int) < (n:Int):=by omega
   have HO2:Hid (OwnC C wr ob n (ctrF W m (strB s) f)):=HO.out.congr (fun x hx => by rw [if_pos (by omega)])
   clear HO HM EN FO
   go_wp2
   go_ret
   exact ⟨⟨ob,C,⟨hwo,hnC⟩,rfl,HO2.out⟩,HB.out⟩
end Go.Proofs.YtcpjeopnhgoonaaGreatDoor
