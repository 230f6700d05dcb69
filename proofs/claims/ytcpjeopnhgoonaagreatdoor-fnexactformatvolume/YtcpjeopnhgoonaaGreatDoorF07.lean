/-
  Texts of the proof, joined.
-/
import Derived.Test.YtcpjeopnhgoonaaGreatDoorF05
import Derived.Test.YtcpjeopnhgoonaaGreatDoorF06
import Derived.Deep.RegionWith
namespace Go.Proofs.YtcpjeopnhgoonaaGreatDoor
open Go.ChangeShapes Go.WideShapes Go.ChangeAt Go.RowKit
set_option linter.unusedVariables false
theorem word_int (a b c d:Nat):bits .or .u32 (bits .or .u32 (bits .or .u32 ((a:Int) * 16777216 % 4294967296) ((b:Int) * 65536 % 4294967296)) ((c:Int) * 256 % 4294967296)) (d:Int) = ((Sha.orr (Sha.orr (Sha.orr (Sha.sl a 24) (Sha.sl b 16)) (Sha.sl c 8)) d:Nat):Int):=by
 rw [← u32_or_nat,← u32_or_nat,← u32_or_nat]
 unfold Sha.sl
 congr 1
set_option maxRecDepth 100000 in
set_option maxHeartbeats 1000000 in
theorem wordOf_any (b o n c:Nat) (f:Nat→Nat) (hf:∀ i,f i < 256) (hn:4≤n) (w:World) (h:Code8 w (some ⟨b,o,none⟩) n f) :
  Calls Tryz.prog 177 #[.slice (some ⟨b,o,none⟩) n c] w fun e w' => e = .returned (.int .u32 ((Sha.word f 0:Nat):Int))∧Below w.heap.size w w':=by
 have c0:w.cell? ⟨b,o,none⟩ = some (.int .u8 (f 0:Nat)):=h.at (i:=0) (by omega)
 have y0:0 < n:=by omega
 have c1:=h.at (i:=1) (by omega)
 have c2:=h.at (i:=2) (by omega)
 have c3:=h.at (i:=3) (by omega)
 have q0:IntKind.u32.wrap (f 0:Int) = (f 0:Int):=by show ((f 0:Nat):Int) % 4294967296 = _; have:=hf 0; omega
 have q1:IntKind.u32.wrap (f 1:Int) = (f 1:Int):=by show ((f 1:Nat):Int) % 4294967296 = _; have:=hf 1; omega
 have q2:IntKind.u32.wrap (f 2:Int) = (f 2:Int):=by show ((f 2:Nat):Int) % 4294967296 = _; have:=hf 2; omega
 have q3:IntKind.u32.wrap (f 3:Int) = (f 3:Int):=by show ((f 3:Nat):Int) % 4294967296 = _; have:=hf 3; omega
 have E:Hid (_ = ((Sha.word f 0:Nat):Int)):=word_int (f 0) (f 1) (f 2) (f 3)
 have x0:(0:Int) < (n:Int):=by omega
 have x1:(1:Int) < (n:Int):=by omega
 have x2:(2:Int) < (n:Int):=by omega
 have x3:(3:Int) < (n:Int):=by omega
 clear h hf
 generalize f 0 = v0 at *
 generalize f 1 = v1 at *
 generalize f 2 = v2 at *
 generalize f 3 = v3 at *
 go_enter Tryz.func177,Tryz.ntmps177
 go_wp2
 go_region
 go_wp2
 go_ret
 exact ⟨numRet E.out,(Below.refl _ _).drew⟩
theorem s0_int (a:Nat):bits .xor .u32 (bits .xor .u32 ((Sha.rt a 7:Nat):Int) ((Sha.rt a 18:Nat):Int)) ((a:Int) / 8) = ((Sha.s0 a:Nat):Int):=by
 unfold Sha.s0 Sha.sr
 rw [← u32_xor_nat,← u32_xor_nat]
 congr 1
theorem s1_int (a:Nat):bits .xor .u32 (bits .xor .u32 ((Sha.rt a 17:Nat):Int) ((Sha.rt a 19:Nat):Int)) ((a:Int) / 1024) = ((Sha.s1 a:Nat):Int):=by
 unfold Sha.s1 Sha.sr
 rw [← u32_xor_nat,← u32_xor_nat]
 congr 1
theorem Tryz.info64w:(Tryz.prog.info? 245).map (fun i => (i.zero,i.size)) = some (some (.agg (Array.replicate 64 (.int .u32 0))),64):=by kernel_rfl
theorem Tryz.zero64w:∀ w,(zeroValue 245).run Tryz.prog w = .ok (.agg (Array.replicate 64 (.int .u32 0))) w:=(zero_of_info Tryz.info64w).1
theorem Tryz.size64w:(Tryz.prog.info? 245).map (·.size) = some 64:=by kernel_rfl
theorem word_at (f:Nat→Nat) (k:Nat):Sha.word (fun j => f (4 * k + j)) 0 = Sha.word f k:=by
 unfold Sha.word
 rfl
set_option maxRecDepth 100000 in
set_option maxHeartbeats 4000000 in
theorem spread_any (b o n c:Nat) (f:Nat→Nat) (hf:∀ i,f i < 256) (hn:64≤n) (hnc:n≤c) (w:World) (h:Code8 w (some ⟨b,o,none⟩) n f) :
  Calls Tryz.prog 191 #[.slice (some ⟨b,o,none⟩) n c] w fun e w' => e = .returned (.agg (wA 64 (Sha.ws f)))∧Below w.heap.size w w':=by
 have z1:=Tryz.zero64w
 have WO:Hid (∀ (q:Nat) (w:World),q + 4≤n→Code8 w (some ⟨b,o + q,none⟩) (n - q) (fun j => f (q + j))→Calls Tryz.prog 177 #[.slice (some ⟨b,o + q,none⟩) (n - q) (c - q)] w fun e w' => e = .returned (.int .u32 ((Sha.word (fun j => f (q + j)) 0:Nat):Int))∧Below w.heap.size w w'):=fun q w hq hw => wordOf_any b (o + q) (n - q) (c - q) _ (fun i => hf _) (by omega) w hw
 have TU:Hid (∀ (x n:Nat) (w:World),Turns n→Calls Tryz.prog 192 #[.int .u32 (x:Int),.int .i64 (n:Int)] w fun e w' => e = .returned (.int .u32 ((Sha.rt x n:Nat):Int))∧w = w'):=fun x n w hn => turned_any x n hn w
 have HC:Hid (Code8 w (some ⟨b,o,none⟩) n f):=h
 have hbl:b < w.heap.size:=h.lt _ (by omega) rfl
 have K0:Hid (RowW ((w.alloc (.cells (Array.replicate 64 (.int .u32 0)) 245)).alloc (.cells (Array.replicate 64 (.int .u32 0)) 245)) w.heap.size 245 64 (fun _ => 0)):=(RowW.zerosAt rfl _ _).alloc _
 have K1:Hid (RowW ((w.alloc (.cells (Array.replicate 64 (.int .u32 0)) 245)).alloc (.cells (Array.replicate 64 (.int .u32 0)) 245)) (w.heap.size + 1) 245 64 (fun _ => 0)):=RowW.zerosAt (by simp) _ _
 have K2:Hid (Below w.heap.size w ((w.alloc (.cells (Array.replicate 64 (.int .u32 0)) 245)).alloc (.cells (Array.replicate 64 (.int .u32 0)) 245))):=((Below.refl _ _).alloc (Nat.le_refl _) _).alloc (by simp) _
 clear h hf
 go_enter Tryz.func191,Tryz.ntmps191
 go_wp2
 generalize (w.alloc (.cells (Array.replicate 64 (.int .u32 0)) 245)).alloc (.cells (Array.replicate 64 (.int .u32 0)) 245) = wz at *
 go_loopw [4,8] (fun _ i wr => ∃ k:Nat,k≤16∧i = .int .i64 k∧RowW wr (w.heap.size + 1) 245 64 (fun j => if j < k then Sha.ws f j else 0)∧RowW wr w.heap.size 245 64 (fun _ => 0)∧Below w.heap.size w wr) (fun _ i _ => 16 - (intOf i).toNat)
 case atStart => exact ⟨0,by omega,rfl,K1.out.congr (fun j hj => by simp),K0.out,K2.out⟩
 case round =>
  clear K0 K1 K2
  obtain ⟨k,hk,rfl,hr,hz,hb⟩:=hrel
  have HR:Hid (RowW wr (w.heap.size + 1) 245 64 (fun j => if j < k then Sha.ws f j else 0)):=hr
  have HZ:Hid (RowW wr w.heap.size 245 64 (fun _ => 0)):=hz
  have HB:Hid (Below w.heap.size w wr):=hb
  by_cases hlt:k < 16
  ·have hlt':(k:Int) < 16:=by omega
   have hlt64:(k:Int) < 64:=by omega
   obtain ⟨q,hq⟩:∃ q,q = 4 * k:=⟨_,rfl⟩
   have e4:(4:Int) * (k:Int) = (q:Int):=by omega
   have x0:(0:Int)≤(q:Int):=by omega
   have x1:(q:Int)≤(n:Int):=by omega
   have x2:¬ c = q:=by omega
   have hqn:q + 4≤n:=by omega
   have HV:Hid (Sha.word (fun j => f (q + j)) 0 = Sha.ws f k):=by show _ = _; rw [hq,word_at,Sha.ws_in f hlt]
   have WQ:Hid (Calls Tryz.prog 177 #[.slice (some ⟨b,o + q,none⟩) (n - q) (c - q)] wr fun e w' => e = .returned (.int .u32 ((Sha.ws f k:Nat):Int))∧Below wr.heap.size wr w'):=by
    show Calls _ _ _ _ _
    rw [← HV.out]
    exact WO.out q wr hqn (by have:=(HC.out.belowAt hb hbl).shift q; exact this)
   clear hr hz hb hq
   go_wp2_with fail
   refine WQ.out.mono ?_
   rintro e w1 ⟨rfl,hb1⟩
   have r1:RowW w1 (w.heap.size + 1) 245 64 (fun j => if j < k then Sha.ws f j else 0):=HR.out.below hb1
   have c1:=World.rowIs.cell r1 (i:=k) (by omega)
   have f1:=World.rowIs.frozen r1 k
   have HR1:Hid (RowW w1 (w.heap.size + 1) 245 64 (fun j => if j < k then Sha.ws f j else 0)):=r1
   have HZ1:Hid (RowW w1 w.heap.size 245 64 (fun _ => 0)):=HZ.out.below hb1
   have HB1:Hid (Below w.heap.size w w1):=HB.out.trans (hb1.mono HB.out.size)
   clear r1 hb1 HR HZ HB WQ HV
   go_wp2
   go_roundw
   case rel =>
    refine ⟨k + 1,by omega,by go_num,?_,HZ1.out.other (by show w.heap.size≠w.heap.size + 1; omega) _,HB1.out.setCell (by show w.heap.size≤w.heap.size + 1; omega) _⟩
    exact (HR1.out.set k (Sha.ws f k)).congr (fun j hj => by
     by_cases e:j = k
     ·subst e; simp
     ·simp only [if_neg e]
      by_cases h1:j < k
      ·rw [if_pos h1,if_pos (by omega)]
      ·rw [if_neg h1,if_neg (by omega)])
   case measure => simp [intOf]; omega
  ·have HR':Hid (RowW wr (w.heap.size + 1) 245 64 (fun j => if j < 16 then Sha.ws f j else 0)):=hr.congr (fun j hj => by rw [show k = 16 from by omega])
   have hlt':¬ (k:Int) < 16:=by omega
   clear hr hz hb HR WO
   go_wp2
   clear hlt hlt' hk
   go_loopw [5,6,7] (fun i _ _ wr => ∃ k:Nat,16≤k∧k≤64∧i = .int .i64 k∧RowW wr (w.heap.size + 1) 245 64 (fun j => if j < k then Sha.ws f j else 0)∧RowW wr w.heap.size 245 64 (fun _ => 0)∧Below w.heap.size w wr) (fun i _ _ _ => 64 - (intOf i).toNat)
   case atStart => exact ⟨16,by omega,by omega,rfl,HR'.out,HZ.out,HB.out⟩
   case round =>
    clear HR' HZ HB
    obtain ⟨k,hk16,hk,rfl,hr,hz,hb⟩:=hrel
    rename_i wr
    have HR:Hid (RowW wr (w.heap.size + 1) 245 64 (fun j => if j < k then Sha.ws f j else 0)):=hr
    have HZ:Hid (RowW wr w.heap.size 245 64 (fun _ => 0)):=hz
    have HB:Hid (Below w.heap.size w wr):=hb
    by_cases hlt:k < 64
    ·have hlt':(k:Int) < 64:=by omega
     obtain ⟨k15,h15⟩:∃ q,q = k - 15:=⟨_,rfl⟩
     obtain ⟨k2,h2⟩:∃ q,q = k - 2:=⟨_,rfl⟩
     obtain ⟨k16,h16⟩:∃ q,q = k - 16:=⟨_,rfl⟩
     obtain ⟨k7,h7⟩:∃ q,q = k - 7:=⟨_,rfl⟩
     have e15:(k:Int) - 15 = (k15:Int):=by omega
     have e2:(k:Int) - 2 = (k2:Int):=by omega
     have e16:(k:Int) - 16 = (k16:Int):=by omega
     have e7:(k:Int) - 7 = (k7:Int):=by omega
     have y15:IntKind.i64.wrap (k15:Int) = (k15:Int):=by rw [IntKind.wrap_i64]; omega
     have y2:IntKind.i64.wrap (k2:Int) = (k2:Int):=by rw [IntKind.wrap_i64]; omega
     have y16:IntKind.i64.wrap (k16:Int) = (k16:Int):=by rw [IntKind.wrap_i64]; omega
     have y7:IntKind.i64.wrap (k7:Int) = (k7:Int):=by rw [IntKind.wrap_i64]; omega
     have l15:(k15:Int) < 64:=by omega
     have l2:(k2:Int) < 64:=by omega
     have l16:(k16:Int) < 64:=by omega
     have l7:(k7:Int) < 64:=by omega
     have c15:wr.cell? ⟨w.heap.size + 1,k15,none⟩ = some (.int .u32 ((Sha.ws f k15:Nat):Int)):=by
      have:=World.rowIs.cell hr (i:=k15) (by omega)
      simp only [if_pos (show k15 < k by omega)] at this
      exact this
     have c2:wr.cell? ⟨w.heap.size + 1,k2,none⟩ = some (.int .u32 ((Sha.ws f k2:Nat):Int)):=by
      have:=World.rowIs.cell hr (i:=k2) (by omega)
      simp only [if_pos (show k2 < k by omega)] at this
      exact this
     have c16:wr.cell? ⟨w.heap.size + 1,k16,none⟩ = some (.int .u32 ((Sha.ws f k16:Nat):Int)):=by
      have:=World.rowIs.cell hr (i:=k16) (by omega)
      simp only [if_pos (show k16 < k by omega)] at this
      exact this
     have c7:wr.cell? ⟨w.heap.size + 1,k7,none⟩ = some (.int .u32 ((Sha.ws f k7:Nat):Int)):=by
      have:=World.rowIs.cell hr (i:=k7) (by omega)
      simp only [if_pos (show k7 < k by omega)] at this
      exact this
     have ck:wr.cell? ⟨w.heap.size + 1,k,none⟩ = some (.int .u32 0):=by
      have:=World.rowIs.cell hr (i:=k) (by omega)
      simp only [Nat.lt_irrefl,if_false] at this
      exact this
     have fk:=World.rowIs.frozen hr k
     have HV:Hid (Sha.ws f k = Sha.ad (Sha.ad (Sha.ad (Sha.ws f k16) (Sha.s0 (Sha.ws f k15))) (Sha.ws f k7)) (Sha.s1 (Sha.ws f k2))):=by show _ = _; rw [Sha.ws_out f (by omega),h15,h2,h16,h7]
     generalize Sha.ws f k15 = v15 at *
     generalize Sha.ws f k2 = v2 at *
     generalize Sha.ws f k16 = v16 at *
     generalize Sha.ws f k7 = v7 at *
     have E0:=s0_int v15
     have E1:=s1_int v2
     have T7:Hid (∀ w:World,Calls Tryz.prog 192 #[.int .u32 (v15:Int),.int .i64 7] w fun e w' => e = .returned (.int .u32 ((Sha.rt v15 7:Nat):Int))∧w = w'):=fun w => TU.out v15 7 w (by unfold Turns; omega)
     have T18:Hid (∀ w:World,Calls Tryz.prog 192 #[.int .u32 (v15:Int),.int .i64 18] w fun e w' => e = .returned (.int .u32 ((Sha.rt v15 18:Nat):Int))∧w = w'):=fun w => TU.out v15 18 w (by unfold Turns; omega)
     have T17:Hid (∀ w:World,Calls Tryz.prog 192 #[.int .u32 (v2:Int),.int .i64 17] w fun e w' => e = .returned (.int .u32 ((Sha.rt v2 17:Nat):Int))∧w = w'):=fun w => TU.out v2 17 w (by unfold Turns; omega)
     have T19:Hid (∀ w:World,Calls Tryz.prog 192 #[.int .u32 (v2:Int),.int .i64 19] w fun e w' => e = .returned (.int .u32 ((Sha.rt v2 19:Nat):Int))∧w = w'):=fun w => TU.out v2 19 w (by unfold Turns; omega)
     generalize Sha.rt v15 7 = r7 at *
     generalize Sha.rt v15 18 = r18 at *
     generalize Sha.rt v2 17 = r17 at *
     generalize Sha.rt v2 19 = r19 at *
     generalize Sha.s0 v15 = S0 at *
     generalize Sha.s1 v2 = S1 at *
     clear hr hz hb h15 h2 h16 h7 TU
     go_wp2_with fail
     go_quiet (first | (exact Calls.quiet_of_same ((T7.out _).mono fun _ _ h => ⟨h.1,h.2.symm⟩)) | (exact Calls.quiet_of_same ((T18.out _).mono fun _ _ h => ⟨h.1,h.2.symm⟩)))
     have HR2:Hid (RowW (wr.drewN nq) (w.heap.size + 1) 245 64 (fun j => if j < k then Sha.ws f j else 0)):=HR.out.drewN nq
     have HZ2:Hid (RowW (wr.drewN nq) w.heap.size 245 64 (fun _ => 0)):=HZ.out.drewN nq
     have HB2:Hid (Below w.heap.size w (wr.drewN nq)):=below_drewN8 HB.out nq
     replace c2:(wr.drewN nq).cell? ⟨w.heap.size + 1,k2,none⟩ = some (.int .u32 (v2:Int)):=c2
     replace c16:(wr.drewN nq).cell? ⟨w.heap.size + 1,k16,none⟩ = some (.int .u32 (v16:Int)):=c16
     replace c7:(wr.drewN nq).cell? ⟨w.heap.size + 1,k7,none⟩ = some (.int .u32 (v7:Int)):=c7
     replace ck:(wr.drewN nq).cell? ⟨w.heap.size + 1,k,none⟩ = some (.int .u32 0):=ck
     replace fk:(wr.drewN nq).frozen? ⟨w.heap.size + 1,k,none⟩ = false:=fk
     clear HR HZ HB c15 E0 T7 T18
     generalize wr.drewN nq = wr2 at *
     go_wp2_with fail
     go_quiet (first | (exact Calls.quiet_of_same ((T17.out _).mono fun _ _ h => ⟨h.1,h.2.symm⟩)) | (exact Calls.quiet_of_same ((T19.out _).mono fun _ _ h => ⟨h.1,h.2.symm⟩)))
     have HR3:Hid (RowW (wr2.drewN nq) (w.heap.size + 1) 245 64 (fun j => if j < k then Sha.ws f j else 0)):=HR2.out.drewN nq
     have HZ3:Hid (RowW (wr2.drewN nq) w.heap.size 245 64 (fun _ => 0)):=HZ2.out.drewN nq
     have HB3:Hid (Below w.heap.size w (wr2.drewN nq)):=below_drewN8 HB2.out nq
     replace c16:(wr2.drewN nq).cell? ⟨w.heap.size + 1,k16,none⟩ = some (.int .u32 (v16:Int)):=c16
     replace c7:(wr2.drewN nq).cell? ⟨w.heap.size + 1,k7,none⟩ = some (.int .u32 (v7:Int)):=c7
     replace ck:(wr2.drewN nq).cell? ⟨w.heap.size + 1,k,none⟩ = some (.int .u32 0):=ck
     replace fk:(wr2.drewN nq).frozen? ⟨w.heap.size + 1,k,none⟩ = false:=fk
     clear HR2 HZ2 HB2 c2 E1 T17 T19
     generalize wr2.drewN nq = wr3 at *
     have A1:=u32_add_nat v16 S0
     have A2:=u32_add_nat (Sha.ad v16 S0) v7
     have A3:=u32_add_nat (Sha.ad (Sha.ad v16 S0) v7) S1
     generalize Sha.ad (Sha.ad (Sha.ad v16 S0) v7) S1 = N3 at *
     generalize Sha.ad (Sha.ad v16 S0) v7 = N2 at *
     generalize Sha.ad v16 S0 = N1 at *
     go_wp2_with fail
     go_region
     go_wp2
     go_roundw
     case rel =>
      refine ⟨k + 1,by omega,by omega,by go_num,?_,(show RowW wr3.drew _ _ _ _ from HZ3.out).other (by show w.heap.size≠w.heap.size + 1; omega) _,HB3.out.drew.setCell (by show w.heap.size≤w.heap.size + 1; omega) _⟩
      exact ((show RowW wr3.drew _ _ _ _ from HR3.out).set k N3).congr (fun j hj => by
       by_cases e:j = k
       ·subst e; rw [if_pos rfl,if_pos (by omega)]; exact HV.out.symm
       ·simp only [if_neg e]
        by_cases h1:j < k
        ·rw [if_pos h1,if_pos (by omega)]
        ·rw [if_neg h1,if_neg (by omega)])
     case measure => simp [intOf]; omega
    ·have HR':Hid (RowW wr (w.heap.size + 1) 245 64 (Sha.ws f)):=hr.congr (fun j hj => by rw [if_pos (by omega)])
     have hlt':¬ (k:Int) < 64:=by omega
     clear hr hz hb HR TU
     go_wp2_with (first
      | (refine wpList_load_mid rfl 245 (.tmp 3) rfl (w.heap.size + 1) 0 rfl (wv 64 (Sha.ws f)) _ HR'.out.range Tryz.underlying245 rfl (by rw [wv_length]; exact Tryz.size64w) ?_)
      | (refine wpList_store_mid rfl 245 (.tmp 2) (.tmp 72) rfl w.heap.size 0 (wA 64 (Sha.ws f)) rfl rfl (by rw [wA_size]; exact HZ.out.there) (by rw [wA_size]; exact Tryz.size64w) (wA_one _ _) ?_))
     rw [wA_toList]
     have L:(loadVar 245 ⟨w.heap.size,0,none⟩).run Tryz.prog (wr.setCells w.heap.size 0 (wv 64 (Sha.ws f))) = .ok (.agg (wA 64 (Sha.ws f))) (wr.setCells w.heap.size 0 (wv 64 (Sha.ws f))):=(HZ.out.stored _).load Tryz.underlying245 rfl Tryz.size64w
     have B:Below w.heap.size w (wr.setCells w.heap.size 0 (wv 64 (Sha.ws f))):=below_setCells (Nat.le_refl _) _ _ _ HB.out
     exact bodyPost_ret (v:=.agg (wA 64 (Sha.ws f))) (results_cell_one (b:=w.heap.size) (o:=0) Tryz.results191 _ _ _ rfl L) rfl ⟨rfl,B⟩
def Tabs (w:World):Prop:=(∀ i,i < 8→w.cell? ⟨3,i,none⟩ = some (.int .u32 ((Sha.h0 i:Nat):Int)))∧∀ i,i < 64→w.cell? ⟨6,i,none⟩ = some (.int .u32 ((Sha.kc i:Nat):Int))
theorem Tabs.below {w w':World} (h:Tabs w) (hb:Below w.heap.size w w'):Tabs w' :=
 ⟨fun i hi => by rw [hb.cell (strBlock (h.1 i hi))]; exact h.1 i hi,fun i hi => by rw [hb.cell (strBlock (h.2 i hi))]; exact h.2 i hi⟩
theorem Tryz.info8w:(Tryz.prog.info? 212).map (fun i => (i.zero,i.size)) = some (some (.agg (Array.replicate 8 (.int .u32 0))),8):=by kernel_rfl
theorem Tryz.zero8w:∀ w,(zeroValue 212).run Tryz.prog w = .ok (.agg (Array.replicate 8 (.int .u32 0))) w:=(zero_of_info Tryz.info8w).1
theorem Tryz.size8w:(Tryz.prog.info? 212).map (·.size) = some 8:=by kernel_rfl
theorem idx64w {f:Nat→Nat} {k:Nat} (h:k < 64) (w:World):(Instr.index 245 (.agg (wA 64 f)) (.int .i64 (k:Int))).run Tryz.prog w = .ok (.int .u32 (f k:Nat)) w :=
 run_index_flat Tryz.underlying245 Tryz.underlying177 rfl (by kernel_rfl) h (wA_at h) w
theorem idx8w {f:Nat→Nat} {k:Nat} (h:k < 8) (w:World):(Instr.index 211 (.agg (wA 8 f)) (.int .i64 (k:Int))).run Tryz.prog w = .ok (.int .u32 (f k:Nat)) w :=
 run_index_flat Tryz.underlying211 Tryz.underlying177 rfl (by kernel_rfl) h (wA_at h) w
theorem big_int (x y z:Nat):bits .xor .u32 (bits .xor .u32 (x:Int) (y:Int)) (z:Int) = ((Sha.xr (Sha.xr x y) z:Nat):Int):=by rw [u32_xor_nat,u32_xor_nat]
theorem nt_int (e:Nat):bits .xor .u32 4294967295 (e:Int) = ((Sha.nt e:Nat):Int):=u32_xor_nat 4294967295 e
theorem ch_int (e f g:Nat):bits .or .u32 (bits .and .u32 (e:Int) (f:Int)) (bits .and .u32 ((Sha.nt e:Nat):Int) (g:Int)) = ((Sha.xr (Sha.an e f) (Sha.an (Sha.nt e) g):Nat):Int):=by rw [u32_and_nat,u32_and_nat,u32_or_nat,Sha.ch_same]
theorem maj_int (a b c:Nat):bits .or .u32 (bits .or .u32 (bits .and .u32 (a:Int) (b:Int)) (bits .and .u32 (a:Int) (c:Int))) (bits .and .u32 (b:Int) (c:Int)) = ((Sha.xr (Sha.xr (Sha.an a b) (Sha.an a c)) (Sha.an b c):Nat):Int):=by rw [u32_and_nat,u32_and_nat,u32_and_nat,u32_or_nat,u32_or_nat,Sha.maj_same]
theorem addm_int (a b:Nat):((a:Int) + (b:Int)) % 4294967296 = ((Sha.ad a b:Nat):Int):=u32_add_nat a b
set_option maxRecDepth 100000 in
set_option maxHeartbeats 4000000 in
theorem after_any (v:Nat→Nat) (b o n c:Nat) (f:Nat→Nat) (hf:∀ i,f i < 256) (hn:64≤n) (hnc:n≤c) (w:World) (h:Code8 w (some ⟨b,o,none⟩) n f) (ht:Tabs w) :
  Calls Tryz.prog 152 #[.agg (wA 8 v),.slice (some ⟨b,o,none⟩) n c] w fun e w' => e = .returned (.agg (wA 8 (Sha.block v f)))∧Below w.heap.size w w':=by
 have z1:=Tryz.zero8w
 have SP:Hid (∀ w:World,Code8 w (some ⟨b,o,none⟩) n f→Calls Tryz.prog 191 #[.slice (some ⟨b,o,none⟩) n c] w fun e w' => e = .returned (.agg (wA 64 (Sha.ws f)))∧Below w.heap.size w w'):=fun w h => spread_any b o n c f hf hn hnc w h
 have TU:Hid (∀ (x n:Nat) (w:World),Turns n→Calls Tryz.prog 192 #[.int .u32 (x:Int),.int .i64 (n:Int)] w fun e w' => e = .returned (.int .u32 ((Sha.rt x n:Nat):Int))∧w' = w):=fun x n w hn => (turned_any x n hn w).mono fun _ _ h => ⟨h.1,h.2.symm⟩
 have HC:Hid (Code8 w (some ⟨b,o,none⟩) n f):=h
 have HT:Hid (Tabs w):=ht
 obtain ⟨VA,hVA⟩:∃ A,A = wA 8 v:=⟨_,rfl⟩
 rw [← hVA]
 have K0:Hid (RowW ((w.alloc (.cells VA 212)).alloc (.cells (Array.replicate 8 (.int .u32 0)) 212)) w.heap.size 212 8 v):=by rw [hVA]; exact (RowW.boxedAt rfl _ _ _).alloc _
 have K1:Hid (RowW ((w.alloc (.cells VA 212)).alloc (.cells (Array.replicate 8 (.int .u32 0)) 212)) (w.heap.size + 1) 212 8 (fun _ => 0)):=RowW.zerosAt (by simp) _ _
 have K2:Hid (Below w.heap.size w ((w.alloc (.cells VA 212)).alloc (.cells (Array.replicate 8 (.int .u32 0)) 212))):=((Below.refl _ _).alloc (Nat.le_refl _) _).alloc (by simp) _
 clear h hf ht hVA
 go_enter Tryz.func152,Tryz.ntmps152
 go_wp2_with fail
 generalize (w.alloc (.cells VA 212)).alloc (.cells (Array.replicate 8 (.int .u32 0)) 212) = wz at *
 have c0:=World.rowIs.cell K0.out (i:=0) (by omega)
 have c1:=World.rowIs.cell K0.out (i:=1) (by omega)
 have c2:=World.rowIs.cell K0.out (i:=2) (by omega)
 have c3:=World.rowIs.cell K0.out (i:=3) (by omega)
 have c4:=World.rowIs.cell K0.out (i:=4) (by omega)
 have c5:=World.rowIs.cell K0.out (i:=5) (by omega)
 have c6:=World.rowIs.cell K0.out (i:=6) (by omega)
 have c7:=World.rowIs.cell K0.out (i:=7) (by omega)
 go_quiet (fail)
 have L0:Hid (RowW (wz.drewN nq) w.heap.size 212 8 v):=K0.out.drewN nq
 have L1:Hid (RowW (wz.drewN nq) (w.heap.size + 1) 212 8 (fun _ => 0)):=K1.out.drewN nq
 have L2:Hid (Below w.heap.size w (wz.drewN nq)):=below_drewN8 K2.out nq
 clear K0 K1 K2 c0 c1 c2 c3 c4 c5 c6 c7
 generalize wz.drewN nq = wy at *
 go_wp2_with fail
 refine (SP.out _ (HC.out.below L2.out)).mono ?_
 rintro e w1 ⟨rfl,hb1⟩
 have M0:Hid (RowW w1 w.heap.size 212 8 v):=L0.out.below hb1
 have M1:Hid (RowW w1 (w.heap.size + 1) 212 8 (fun _ => 0)):=L1.out.below hb1
 have M2:Hid (Below w.heap.size w w1):=L2.out.trans (hb1.mono L2.out.size)
 have IX:Hid (∀ (k:Nat) (w:World),k < 64→(Instr.index 245 (.agg (wA 64 (Sha.ws f))) (.int .i64 (k:Int))).run Tryz.prog w = .ok (.int .u32 ((Sha.ws f k:Nat):Int)) w):=fun k w hk => idx64w hk w
 clear L0 L1 L2 hb1 SP HC
 generalize wA 64 (Sha.ws f) = WA at *
 go_wp2_with fail
 go_loopw [5,6,7,8,9,10,11,12,13,14,15,16,37] (fun s0 s1 s2 s3 s4 s5 s6 s7 _ _ _ _ i wr => ∃ k:Nat,k≤64∧i = .int .i64 k∧s0 = .int .u32 ((Sha.rounds (Sha.ws f) v k 0:Nat):Int)∧s1 = .int .u32 ((Sha.rounds (Sha.ws f) v k 1:Nat):Int)∧s2 = .int .u32 ((Sha.rounds (Sha.ws f) v k 2:Nat):Int)∧s3 = .int .u32 ((Sha.rounds (Sha.ws f) v k 3:Nat):Int)∧s4 = .int .u32 ((Sha.rounds (Sha.ws f) v k 4:Nat):Int)∧s5 = .int .u32 ((Sha.rounds (Sha.ws f) v k 5:Nat):Int)∧s6 = .int .u32 ((Sha.rounds (Sha.ws f) v k 6:Nat):Int)∧s7 = .int .u32 ((Sha.rounds (Sha.ws f) v k 7:Nat):Int)∧RowW wr w.heap.size 212 8 v∧RowW wr (w.heap.size + 1) 212 8 (fun _ => 0)∧Below w.heap.size w wr) (fun _ _ _ _ _ _ _ _ _ _ _ _ i _ => 64 - (intOf i).toNat)
 case atStart => exact ⟨0,by omega,rfl,rfl,rfl,rfl,rfl,rfl,rfl,rfl,rfl,M0.out,M1.out,M2.out⟩
 case round =>
  clear M0 M1 M2
  obtain ⟨k,hk,rfl,rfl,rfl,rfl,rfl,rfl,rfl,rfl,rfl,h0,h1,hb⟩:=hrel
  have H0:Hid (RowW wr w.heap.size 212 8 v):=h0
  have H1:Hid (RowW wr (w.heap.size + 1) 212 8 (fun _ => 0)):=h1
  have HB:Hid (Below w.heap.size w wr):=hb
  clear h0 h1 hb
  by_cases hlt:k < 64
  ·have hlt':(k:Int) < 64:=by omega
   have ix:∀ w:World,(Instr.index 245 (.agg WA) (.int .i64 (k:Int))).run Tryz.prog w = .ok (.int .u32 ((Sha.ws f k:Nat):Int)) w:=fun w => IX.out k w hlt
   have cK:wr.cell? ⟨6,k,none⟩ = some (.int .u32 ((Sha.kc k:Nat):Int)):=(HT.out.below HB.out).2 k hlt
   obtain ⟨G,hG⟩:∃ G,G = Sha.rounds (Sha.ws f) v k:=⟨_,rfl⟩
   have R:∀ j,Sha.rounds (Sha.ws f) v (k + 1) j = Sha.step G (Sha.kc k) (Sha.ws f k) j:=fun j => by rw [hG]; rfl
   obtain ⟨P,hP⟩:∃ P,P = Sha.ad (Sha.ad (Sha.ad (Sha.ad (G 7) (Sha.xr (Sha.xr (Sha.rt (G 4) 6) (Sha.rt (G 4) 11)) (Sha.rt (G 4) 25))) (Sha.xr (Sha.an (G 4) (G 5)) (Sha.an (Sha.nt (G 4)) (G 6)))) (Sha.kc k)) (Sha.ws f k):=⟨_,rfl⟩
   obtain ⟨Q,hQ⟩:∃ Q,Q = Sha.ad (Sha.xr (Sha.xr (Sha.rt (G 0) 2) (Sha.rt (G 0) 13)) (Sha.rt (G 0) 22)) (Sha.xr (Sha.xr (Sha.an (G 0) (G 1)) (Sha.an (G 0) (G 2))) (Sha.an (G 1) (G 2))):=⟨_,rfl⟩
   have R0:Hid (Sha.rounds (Sha.ws f) v (k + 1) 0 = Sha.ad P Q):=by show _ = _; rw [R,hP,hQ]; rfl
   have R1:Hid (Sha.rounds (Sha.ws f) v (k + 1) 1 = G 0):=by show _ = _; rw [R]; rfl
   have R2:Hid (Sha.rounds (Sha.ws f) v (k + 1) 2 = G 1):=by show _ = _; rw [R]; rfl
   have R3:Hid (Sha.rounds (Sha.ws f) v (k + 1) 3 = G 2):=by show _ = _; rw [R]; rfl
   have R4:Hid (Sha.rounds (Sha.ws f) v (k + 1) 4 = Sha.ad (G 3) P):=by show _ = _; rw [R,hP]; rfl
   have R5:Hid (Sha.rounds (Sha.ws f) v (k + 1) 5 = G 4):=by show _ = _; rw [R]; rfl
   have R6:Hid (Sha.rounds (Sha.ws f) v (k + 1) 6 = G 5):=by show _ = _; rw [R]; rfl
   have R7:Hid (Sha.rounds (Sha.ws f) v (k + 1) 7 = G 6):=by show _ = _; rw [R]; rfl
   rw [← hG]
   clear R hG
   generalize Sha.ws f k = W at *
   generalize Sha.kc k = Kc at *
   generalize G 0 = va at *
   generalize G 1 = vb at *
   generalize G 2 = vc at *
   generalize G 3 = vd at *
   generalize G 4 = ve at *
   generalize G 5 = vf at *
   generalize G 6 = vg at *
   generalize G 7 = vh at *
   clear G
   have T6:Hid (∀ w:World,Calls Tryz.prog 192 #[.int .u32 (ve:Int),.int .i64 6] w fun e w' => e = .returned (.int .u32 ((Sha.rt ve 6:Nat):Int))∧w' = w):=fun w => TU.out ve 6 w (by unfold Turns; omega)
   have T11:Hid (∀ w:World,Calls Tryz.prog 192 #[.int .u32 (ve:Int),.int .i64 11] w fun e w' => e = .returned (.int .u32 ((Sha.rt ve 11:Nat):Int))∧w' = w):=fun w => TU.out ve 11 w (by unfold Turns; omega)
   have T25:Hid (∀ w:World,Calls Tryz.prog 192 #[.int .u32 (ve:Int),.int .i64 25] w fun e w' => e = .returned (.int .u32 ((Sha.rt ve 25:Nat):Int))∧w' = w):=fun w => TU.out ve 25 w (by unfold Turns; omega)
   have T2:Hid (∀ w:World,Calls Tryz.prog 192 #[.int .u32 (va:Int),.int .i64 2] w fun e w' => e = .returned (.int .u32 ((Sha.rt va 2:Nat):Int))∧w = w'):=fun w => (TU.out va 2 w (by unfold Turns; omega)).mono fun _ _ h => ⟨h.1,h.2.symm⟩
   have T13:Hid (∀ w:World,Calls Tryz.prog 192 #[.int .u32 (va:Int),.int .i64 13] w fun e w' => e = .returned (.int .u32 ((Sha.rt va 13:Nat):Int))∧w = w'):=fun w => (TU.out va 13 w (by unfold Turns; omega)).mono fun _ _ h => ⟨h.1,h.2.symm⟩
   have T22:Hid (∀ w:World,Calls Tryz.prog 192 #[.int .u32 (va:Int),.int .i64 22] w fun e w' => e = .returned (.int .u32 ((Sha.rt va 22:Nat):Int))∧w = w'):=fun w => (TU.out va 22 w (by unfold Turns; omega)).mono fun _ _ h => ⟨h.1,h.2.symm⟩
   generalize Sha.rt ve 6 = r6 at *
   generalize Sha.rt ve 11 = r11 at *
   generalize Sha.rt ve 25 = r25 at *
   generalize Sha.rt va 2 = r2 at *
   generalize Sha.rt va 13 = r13 at *
   generalize Sha.rt va 22 = r22 at *
   have E1:=big_int r6 r11 r25
   have E0:=big_int r2 r13 r22
   have EN:=nt_int ve
   have EN':bits .xor .u32 (if IntKind.u32.signed = true then -1 else IntKind.u32.max) (ve:Int) = ((Sha.nt ve:Nat):Int):=nt_int ve
   have EC:=ch_int ve vf vg
   have EM:=maj_int va vb vc
   generalize Sha.nt ve = ne at *
   generalize Sha.xr (Sha.an ve vf) (Sha.an ne vg) = CH at *
   generalize Sha.xr (Sha.xr (Sha.an va vb) (Sha.an va vc)) (Sha.an vb vc) = MJ at *
   generalize Sha.xr (Sha.xr r6 r11) r25 = B1 at *
   generalize Sha.xr (Sha.xr r2 r13) r22 = B0 at *
   have A1:=u32_add_nat vh B1
   have A2:=u32_add_nat (Sha.ad vh B1) CH
   have A3:=u32_add_nat (Sha.ad (Sha.ad vh B1) CH) Kc
   have A4:=u32_add_nat (Sha.ad (Sha.ad (Sha.ad vh B1) CH) Kc) W
   rw [← hP] at A4
   have A5:=u32_add_nat B0 MJ
   have A5':=addm_int B0 MJ
   rw [← hQ] at A5 A5'
   have A6:=u32_add_nat vd P
   have A6':=addm_int vd P
   have A7:=u32_add_nat P Q
   have A7':=addm_int P Q
   generalize Sha.ad (Sha.ad (Sha.ad vh B1) CH) Kc = N3 at *
   generalize Sha.ad (Sha.ad vh B1) CH = N2 at *
   generalize Sha.ad vh B1 = N1 at *
   generalize Sha.ad vd P = DP at *
   generalize Sha.ad P Q = PQ at *
   clear hP hQ TU
   go_wp2_with fail
   go_quiet (first | (exact Calls.quiet_of_same (T6.out _)) | (exact Calls.quiet_of_same (T11.out _)) | (exact Calls.quiet_of_same (T25.out _)))
   have J0:Hid (RowW (wr.drewN nq) w.heap.size 212 8 v):=H0.out.drewN nq
   have J1:Hid (RowW (wr.drewN nq) (w.heap.size + 1) 212 8 (fun _ => 0)):=H1.out.drewN nq
   have J2:Hid (Below w.heap.size w (wr.drewN nq)):=below_drewN8 HB.out nq
   clear H0 H1 HB cK E1 EN EN' EC A1 A2 A3 A4 T6 T11 T25
   generalize wr.drewN nq = wr2 at *
   go_wp2_with (first
    | (go_at_call 192; refine (T2.out _).mono ?_; rintro e w' ⟨rfl,rfl⟩)
    | (go_at_call 192; refine (T13.out _).mono ?_; rintro e w' ⟨rfl,rfl⟩)
    | (go_at_call 192; refine (T22.out _).mono ?_; rintro e w' ⟨rfl,rfl⟩))
   go_roundw
   case rel => exact ⟨k + 1,by omega,by go_num,numEq8 (by rw [R0.out]),numEq8 (by rw [R1.out]),numEq8 (by rw [R2.out]),numEq8 (by rw [R3.out]),numEq8 (by rw [R4.out]),numEq8 (by rw [R5.out]),numEq8 (by rw [R6.out]),numEq8 (by rw [R7.out]),J0.out,J1.out,J2.out⟩
   case measure => simp [intOf]; omega
  ·have hlt':¬ (k:Int) < 64:=by omega
   have hk64:k = 64:=by omega
   subst hk64
   obtain ⟨G,hG⟩:∃ G,G = Sha.rounds (Sha.ws f) v 64:=⟨_,rfl⟩
   have HBL:Hid (∀ j,Sha.block v f j = Sha.ad (v j) (G j)):=fun j => by rw [hG]; rfl
   have GA:Hid ((#[.int .u32 ((G 0:Nat):Int),.int .u32 ((G 1:Nat):Int),.int .u32 ((G 2:Nat):Int),.int .u32 ((G 3:Nat):Int),.int .u32 ((G 4:Nat):Int),.int .u32 ((G 5:Nat):Int),.int .u32 ((G 6:Nat):Int),.int .u32 ((G 7:Nat):Int)]:Array Value) = wA 8 G):=rfl
   have I8:Hid (∀ (k:Nat) (w:World),k < 8→(Instr.index 211 (.agg (wA 8 G)) (.int .i64 (k:Int))).run Tryz.prog w = .ok (.int .u32 ((G k:Nat):Int)) w):=fun k w hk => idx8w hk w
   rw [← hG]
   clear hG hlt TU IX
   go_wp2
   rw [GA.out]
   clear GA
   generalize wA 8 G = GG at *
   go_loopw [17,18,108] (fun _ _ i wr => ∃ k:Nat,k≤8∧i = .int .i64 k∧RowW wr w.heap.size 212 8 (fun j => if j < k then Sha.block v f j else v j)∧RowW wr (w.heap.size + 1) 212 8 (fun _ => 0)∧Below w.heap.size w wr) (fun _ _ i _ => 8 - (intOf i).toNat)
   case atStart => exact ⟨0,by omega,rfl,H0.out.congr (fun j hj => by simp),H1.out,HB.out⟩
   case round =>
    clear H0 H1 HB
    obtain ⟨k,hk,rfl,h0,h1,hb⟩:=hrel
    rename_i wr
    have H0:Hid (RowW wr w.heap.size 212 8 (fun j => if j < k then Sha.block v f j else v j)):=h0
    have H1:Hid (RowW wr (w.heap.size + 1) 212 8 (fun _ => 0)):=h1
    have HB:Hid (Below w.heap.size w wr):=hb
    by_cases hlt:k < 8
    ·have hlt':(k:Int) < 8:=by omega
     have c1:wr.cell? ⟨w.heap.size,k,none⟩ = some (.int .u32 ((v k:Nat):Int)):=by
      have:=World.rowIs.cell h0 (i:=k) hlt
      simp only [Nat.lt_irrefl,if_false] at this
      exact this
     have f1:=World.rowIs.frozen h0 k
     have ix:∀ w:World,(Instr.index 211 (.agg GG) (.int .i64 (k:Int))).run Tryz.prog w = .ok (.int .u32 ((G k:Nat):Int)) w:=fun w => I8.out k w hlt
     have HV:Hid (Sha.block v f k = Sha.ad (v k) (G k)):=HBL.out k
     have A1:=u32_add_nat (v k) (G k)
     have A1':=addm_int (v k) (G k)
     generalize Sha.ad (v k) (G k) = NV at *
     generalize v k = vk at *
     generalize G k = gk at *
     clear h0 h1 hb
     go_wp2
     go_roundw
     case rel =>
      refine ⟨k + 1,by omega,by go_num,?_,H1.out.other (by show w.heap.size + 1≠w.heap.size; omega) _,HB.out.setCell (Nat.le_refl _) _⟩
      exact (H0.out.set k NV).congr (fun j hj => by
       by_cases e:j = k
       ·subst e; rw [if_pos rfl,if_pos (by omega)]; exact HV.out.symm
       ·simp only [if_neg e]
        by_cases h1:j < k
        ·rw [if_pos h1,if_pos (by omega)]
        ·rw [if_neg h1,if_neg (by omega)])
     case measure => simp [intOf]; omega
    ·have HR':Hid (RowW wr w.heap.size 212 8 (Sha.block v f)):=h0.congr (fun j hj => by rw [if_pos (by omega)])
     have hlt':¬ (k:Int) < 8:=by omega
     clear h0 h1 hb H0
     go_wp2_with (first
      | (refine wpList_load_mid rfl 212 (.tmp 2) rfl w.heap.size 0 rfl (wv 8 (Sha.block v f)) _ HR'.out.range Tryz.underlying212 rfl (by rw [wv_length]; exact Tryz.size8w) ?_)
      | (refine wpList_store_mid rfl 212 (.tmp 4) (.tmp 119) rfl (w.heap.size + 1) 0 (wA 8 (Sha.block v f)) rfl rfl (by rw [wA_size]; exact H1.out.there) (by rw [wA_size]; exact Tryz.size8w) (wA_one _ _) ?_))
     rw [wA_toList]
     have L:(loadVar 212 ⟨w.heap.size + 1,0,none⟩).run Tryz.prog (wr.setCells (w.heap.size + 1) 0 (wv 8 (Sha.block v f))) = .ok (.agg (wA 8 (Sha.block v f))) (wr.setCells (w.heap.size + 1) 0 (wv 8 (Sha.block v f))):=(H1.out.stored _).load Tryz.underlying212 rfl Tryz.size8w
     have B:Below w.heap.size w (wr.setCells (w.heap.size + 1) 0 (wv 8 (Sha.block v f))):=below_setCells (by omega) _ _ _ HB.out
     exact bodyPost_ret (v:=.agg (wA 8 (Sha.block v f))) (results_cell_one (b:=w.heap.size + 1) (o:=0) Tryz.results152 _ _ _ rfl L) rfl ⟨rfl,B⟩
end Go.Proofs.YtcpjeopnhgoonaaGreatDoor
