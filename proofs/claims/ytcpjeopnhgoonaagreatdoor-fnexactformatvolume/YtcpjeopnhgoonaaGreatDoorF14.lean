/-
  Texts of the proof, joined.
-/
import Derived.Test.YtcpjeopnhgoonaaGreatDoorF11
import Derived.Test.YtcpjeopnhgoonaaGreatDoorF13
namespace Go.Proofs.YtcpjeopnhgoonaaGreatDoor
open Go.ChangeShapes Go.WideShapes Go.ChangeAt Go.RowKit
set_option linter.unusedVariables false
theorem Tryz.info256:(Tryz.prog.info? 259).map (fun i => (i.zero,i.size)) = some (some (.agg (Array.replicate 256 (.int .u8 0))),256):=by kernel_rfl
theorem Tryz.zero256:∀ w,(zeroValue 259).run Tryz.prog w = .ok (.agg (Array.replicate 256 (.int .u8 0))) w:=(zero_of_info Tryz.info256).1
theorem Tryz.size256:(Tryz.prog.info? 259).map (·.size) = some 256:=(zero_of_info Tryz.info256).2
theorem Tryz.info255:(Tryz.prog.info? 278).map (fun i => (i.zero,i.size)) = some (some (.agg (Array.replicate 255 (.int .u8 0))),255):=by kernel_rfl
theorem Tryz.zero255:∀ w,(zeroValue 278).run Tryz.prog w = .ok (.agg (Array.replicate 255 (.int .u8 0))) w:=(zero_of_info Tryz.info255).1
theorem Tryz.size255:(Tryz.prog.info? 278).map (·.size) = some 255:=(zero_of_info Tryz.info255).2
theorem Tryz.size8:(Tryz.prog.info? 5).map (·.size) = some 1:=by kernel_rfl
theorem idx255 {f:Nat→Nat} {k:Nat} (h:k < 255) (w:World):(Instr.index 278 (.agg (bA 255 f)) (.int .i64 (k:Int))).run Tryz.prog w = .ok (.int .u8 (f k:Nat)) w :=
 run_index_flat Tryz.underlying278 Tryz.underlying5 rfl Tryz.size8 h (bA_at h) w
theorem idx256 {f:Nat→Nat} {k:Nat} (h:k < 256) (w:World):(Instr.index 259 (.agg (bA 256 f)) (.int .i64 (k:Int))).run Tryz.prog w = .ok (.int .u8 (f k:Nat)) w :=
 run_index_flat Tryz.underlying259 Tryz.underlying5 rfl Tryz.size8 h (bA_at h) w
theorem spread0:Gf.spread 0 = 99:=by decide +kernel
set_option maxRecDepth 100000 in
set_option maxHeartbeats 2000000 in
theorem substitutes_any (w:World) :
  Calls Tryz.prog 217 #[] w fun e w' => e = .returned (.agg (bA 256 Gf.sub))∧Below w.heap.size w w':=by
 have z1:=Tryz.zero256
 have z2:=Tryz.zero255
 have K0:Hid (Row8 ((w.alloc (.cells (Array.replicate 256 (.int .u8 0)) 259)).alloc (.cells (Array.replicate 255 (.int .u8 0)) 278)) w.heap.size 259 256 (fun _ => 0)):=(Row8.zerosAt rfl _ _).alloc _
 have K1:Hid (Row8 ((w.alloc (.cells (Array.replicate 256 (.int .u8 0)) 259)).alloc (.cells (Array.replicate 255 (.int .u8 0)) 278)) (w.heap.size + 1) 278 255 (fun _ => 0)):=Row8.zerosAt (by simp) _ _
 have K2:Hid (Below w.heap.size w ((w.alloc (.cells (Array.replicate 256 (.int .u8 0)) 259)).alloc (.cells (Array.replicate 255 (.int .u8 0)) 278))):=((Below.refl _ _).alloc (Nat.le_refl _) _).alloc (by simp) _
 have K3:Hid (((w.alloc (.cells (Array.replicate 256 (.int .u8 0)) 259)).alloc (.cells (Array.replicate 255 (.int .u8 0)) 278)).heap.size = w.heap.size + 2):=by show _ = _; simp
 go_enter Tryz.func217,Tryz.ntmps217
 go_wp2
 generalize (w.alloc (.cells (Array.replicate 256 (.int .u8 0)) 259)).alloc (.cells (Array.replicate 255 (.int .u8 0)) 278) = wz at *
 go_loopw [2,3,7] (fun x _ i wr => ∃ k:Nat,k≤255∧i = .int .i64 k∧x = .int .u8 (Gf.pw k:Nat)∧Row8 wr w.heap.size 259 256 (fun _ => 0)∧Row8 wr (w.heap.size + 1) 278 255 (fun j => if j < k then Gf.pw j else 0)∧Below w.heap.size w wr∧wr.heap.size = w.heap.size + 2) (fun _ _ i _ => 255 - (intOf i).toNat)
 case atStart => exact ⟨0,by omega,rfl,rfl,K0.out,K1.out.congr (fun j hj => by simp),K2.out,K3.out⟩
 case round =>
  obtain ⟨k,hk,rfl,rfl,h0,h1,hb,hs⟩:=hrel
  have H0:Hid (Row8 wr w.heap.size 259 256 (fun _ => 0)):=h0
  have H1:Hid (Row8 wr (w.heap.size + 1) 278 255 (fun j => if j < k then Gf.pw j else 0)):=h1
  have HB:Hid (Below w.heap.size w wr):=hb
  have HS:Hid (wr.heap.size = w.heap.size + 2):=hs
  have hp:=Gf.pw_lt k
  have E:Hid (bits BinOp.xor IntKind.u8 (Gf.pw k:Int) (Gf.dbl (Gf.pw k):Int) = ((Gf.pw (k + 1):Nat):Int)):=u8_xor_nat _ _ hp (Gf.dbl_lt _ hp)
  by_cases hlt:k < 255
  ·have c1:=World.rowIs.cell h1 hlt
   have f1:=World.rowIs.frozen h1 k
   clear h0 h1 hb hs K0 K1 K2 K3
   go_wp2_with (go_at_call 231; refine (double_any _ hp _).mono ?_; rintro e w' ⟨rfl,rfl⟩)
   go_roundw
   case rel =>
    refine ⟨k + 1,by omega,by go_num,val_int E.out,H0.out.other (by show w.heap.size≠w.heap.size + 1; omega) _,?_,HB.out.setCell (by show w.heap.size≤w.heap.size + 1; omega) _,by simpa using HS.out⟩
    exact (H1.out.set k (Gf.pw k)).congr (fun j hj => by
     by_cases e:j = k
     ·subst e; simp
     ·simp only [if_neg e]
      by_cases h1:j < k
      ·rw [if_pos h1,if_pos (by omega)]
      ·rw [if_neg h1,if_neg (by omega)])
   case measure => simp [intOf]; omega
  ·have H1':Hid (Row8 wr (w.heap.size + 1) 278 255 Gf.pw):=h1.congr (fun j hj => by rw [if_pos (by omega)])
   have hk':¬ (k:Int) < 255:=by omega
   clear h0 h1 hb K0 K1 K2 K3 E H1 hp
   generalize Gf.pw k = V
   generalize (k:Int) = kk at *
   clear hk hlt
   have P0:Hid (Row8 (wr.alloc (.cells ((Array.replicate 256 (.int .u8 0)).setIfInBounds 0 (.int .u8 99)) 259)) (w.heap.size + 2) 259 256 (fun j => if j = 0 then 99 else 0)):=Row8.zerosSetAt HS.out 259 256 0 99
   have P1:Hid (Row8 (wr.alloc (.cells ((Array.replicate 256 (.int .u8 0)).setIfInBounds 0 (.int .u8 99)) 259)) (w.heap.size + 1) 278 255 Gf.pw):=H1'.out.alloc _
   have P2:Hid (Row8 (wr.alloc (.cells ((Array.replicate 256 (.int .u8 0)).setIfInBounds 0 (.int .u8 99)) 259)) w.heap.size 259 256 (fun _ => 0)):=H0.out.alloc _
   have P3:Hid (Below w.heap.size w (wr.alloc (.cells ((Array.replicate 256 (.int .u8 0)).setIfInBounds 0 (.int .u8 99)) 259))):=HB.out.alloc (by rw [HS.out]; omega) _
   have q0:(Array.replicate 256 (Value.int .u8 0))[0]? = some (.int .u8 0):=by simp
   have e0:=spread0
   go_wp2_with (first | (go_at_call 232; refine (spreadBits_any 0 (by omega) _).mono ?_; rintro e w' ⟨rfl,rfl⟩) | (refine wpList_load_mid rfl 278 (.tmp 1) rfl (w.heap.size + 1) 0 rfl (bv 255 Gf.pw) _ P1.out.range Tryz.underlying278 rfl (by rw [bv_length]; exact Tryz.size255) ?_))
   clear q0 e0 H0 H1' HB HS hs
   generalize (wr.alloc (.cells ((Array.replicate 256 (.int .u8 0)).setIfInBounds 0 (.int .u8 99)) 259)) = wy at *
   have eA:(bv 255 Gf.pw).toArray = bA 255 Gf.pw:=rfl
   rw [eA]
   clear eA
   go_loopw [5,6,21] (fun _ _ i wq => ∃ k:Nat,k≤255∧i = .int .i64 k∧Row8 wq w.heap.size 259 256 (fun _ => 0)∧Row8 wq (w.heap.size + 1) 278 255 Gf.pw∧Row8 wq (w.heap.size + 2) 259 256 (Gf.tabTo k)∧Below w.heap.size w wq) (fun _ _ i _ => 255 - (intOf i).toNat)
   case atStart => exact ⟨0,by omega,rfl,P2.out,P1.out,P0.out.congr (fun j hj => rfl),P3.out⟩
   case round =>
    obtain ⟨k,hk,rfl,h0,h1,h2,hb⟩:=hrel
    have H0:Hid (Row8 wr w.heap.size 259 256 (fun _ => 0)):=h0
    have H1:Hid (Row8 wr (w.heap.size + 1) 278 255 Gf.pw):=h1
    have H2:Hid (Row8 wr (w.heap.size + 2) 259 256 (Gf.tabTo k)):=h2
    have HB:Hid (Below w.heap.size w wr):=hb
    by_cases hlt:k < 255
    ·have hp:=Gf.pw_lt k
     have hm:(255 - k) % 255 < 255:=Nat.mod_lt _ (by omega)
     have hq:=Gf.pw_lt ((255 - k) % 255)
     have c1:=World.rowIs.cell h1 hm
     have c2:=World.rowIs.cell h2 hp
     have f2:=World.rowIs.frozen h2 (Gf.pw k)
     have ix:=idx255 (f:=Gf.pw) hlt
     have em:(255 - (k:Int)) % 255 = (((255 - k) % 255:Nat):Int):=by omega
     have em':-(k:Int) % 255 = (((255 - k) % 255:Nat):Int):=by omega
     have et:(255 - (k:Int)).tmod 255 = (((255 - k) % 255:Nat):Int):=by
      rw [show 255 - (k:Int) = ((255 - k:Nat):Int) from by omega]
      exact (Int.ofNat_tmod (255 - k) 255).symm
     have E:Hid (∀ j,Gf.tabTo (k + 1) j = if j = Gf.pw k then Gf.spread (Gf.pw ((255 - k) % 255)) else Gf.tabTo k j):=fun j => rfl
     clear h0 h1 h2 hb P0 P1 P2 P3
     generalize (255 - k) % 255 = M at *
     generalize Gf.pw k = P at *
     generalize Gf.pw M = R at *
     go_wp2_with (go_at_call 232; refine (spreadBits_any R hq _).mono ?_; rintro e w' ⟨rfl,rfl⟩)
     go_roundw
     case rel =>
      refine ⟨k + 1,by omega,by go_num,H0.out.other (by show w.heap.size≠w.heap.size + 2; omega) _,H1.out.other (by show w.heap.size + 1≠w.heap.size + 2; omega) _,?_,HB.out.setCell (by show w.heap.size≤w.heap.size + 2; omega) _⟩
      exact (H2.out.set P (Gf.spread R)).congr (fun j hj => by rw [E.out j])
     case measure => simp [intOf]; omega
    ·have H2':Hid (Row8 wr (w.heap.size + 2) 259 256 Gf.sub):=h2.congr (fun j hj => by rw [show k = 255 from by omega]; exact Gf.tab_last j hj)
     clear h0 h1 h2 hb P0 P1 P2 P3 H1 H2
     go_wp2_with (first
      | (refine wpList_load_mid rfl 259 (.tmp 4) rfl (w.heap.size + 2) 0 rfl (bv 256 Gf.sub) _ H2'.out.range Tryz.underlying259 rfl (by rw [bv_length]; exact Tryz.size256) ?_)
      | (refine wpList_store_mid rfl 259 (.tmp 0) (.tmp 34) rfl w.heap.size 0 (bA 256 Gf.sub) rfl rfl (by rw [bA_size]; exact H0.out.there) (by rw [bA_size]; exact Tryz.size256) (bA_one _ _) ?_))
     rw [bA_toList]
     have L:(loadVar 259 ⟨w.heap.size,0,none⟩).run Tryz.prog (wr.setCells w.heap.size 0 (bv 256 Gf.sub)) = .ok (.agg (bA 256 Gf.sub)) (wr.setCells w.heap.size 0 (bv 256 Gf.sub)):=(H0.out.stored _).load Tryz.underlying259 rfl Tryz.size256
     have B:Below w.heap.size w (wr.setCells w.heap.size 0 (bv 256 Gf.sub)):=below_setCells (Nat.le_refl _) _ _ _ HB.out
     exact bodyPost_ret (v:=.agg (bA 256 Gf.sub)) (results_cell_one (b:=w.heap.size) (o:=0) Tryz.results217 _ _ _ rfl L) rfl ⟨rfl,B⟩
set_option maxRecDepth 100000 in
set_option maxHeartbeats 2000000 in
theorem backwards_any (w:World) :
  Calls Tryz.prog 219 #[.agg (bA 256 Gf.sub)] w fun e w' => e = .returned (.agg (bA 256 Gf.unsub))∧Below w.heap.size w w':=by
 have z1:=Tryz.zero256
 have K0:Hid (Row8 (((w.alloc (.cells (bA 256 Gf.sub) 259)).alloc (.cells (Array.replicate 256 (.int .u8 0)) 259)).alloc (.cells (Array.replicate 256 (.int .u8 0)) 259)) w.heap.size 259 256 Gf.sub):=((Row8.boxedAt rfl _ _ _).alloc _).alloc _
 have K1:Hid (Row8 (((w.alloc (.cells (bA 256 Gf.sub) 259)).alloc (.cells (Array.replicate 256 (.int .u8 0)) 259)).alloc (.cells (Array.replicate 256 (.int .u8 0)) 259)) (w.heap.size + 1) 259 256 (fun _ => 0)):=(Row8.zerosAt (by simp) _ _).alloc _
 have K2:Hid (Row8 (((w.alloc (.cells (bA 256 Gf.sub) 259)).alloc (.cells (Array.replicate 256 (.int .u8 0)) 259)).alloc (.cells (Array.replicate 256 (.int .u8 0)) 259)) (w.heap.size + 1 + 1) 259 256 (fun _ => 0)):=Row8.zerosAt (by simp) _ _
 have K3:Hid (Below w.heap.size w (((w.alloc (.cells (bA 256 Gf.sub) 259)).alloc (.cells (Array.replicate 256 (.int .u8 0)) 259)).alloc (.cells (Array.replicate 256 (.int .u8 0)) 259))):=(((Below.refl _ _).alloc (Nat.le_refl _) _).alloc (by simp) _).alloc (by simp; omega) _
 go_enter Tryz.func219,Tryz.ntmps219
 go_wp2_with (refine wpList_load_mid rfl 259 (.tmp 1) rfl w.heap.size 0 rfl (bv 256 Gf.sub) _ K0.out.range Tryz.underlying259 rfl (by rw [bv_length]; exact Tryz.size256) ?_)
 generalize ((w.alloc (.cells (bA 256 Gf.sub) 259)).alloc (.cells (Array.replicate 256 (.int .u8 0)) 259)).alloc (.cells (Array.replicate 256 (.int .u8 0)) 259) = wz at *
 have eA:(bv 256 Gf.sub).toArray = bA 256 Gf.sub:=rfl
 rw [eA]
 clear eA K0
 go_loopw [4,5,7] (fun _ _ i wr => ∃ k:Nat,k≤256∧i = .int .i64 k∧Row8 wr (w.heap.size + 1) 259 256 (fun _ => 0)∧Row8 wr (w.heap.size + 1 + 1) 259 256 (Gf.backTo k)∧Below w.heap.size w wr) (fun _ _ i _ => 256 - (intOf i).toNat)
 case atStart => exact ⟨0,by omega,rfl,K1.out,K2.out.congr (fun j hj => rfl),K3.out⟩
 case round =>
  obtain ⟨k,hk,rfl,h1,h2,hb⟩:=hrel
  have H1:Hid (Row8 wr (w.heap.size + 1) 259 256 (fun _ => 0)):=h1
  have H2:Hid (Row8 wr (w.heap.size + 1 + 1) 259 256 (Gf.backTo k)):=h2
  have HB:Hid (Below w.heap.size w wr):=hb
  by_cases hlt:k < 256
  ·have hs:=Gf.sub_lt k hlt
   have c2:=World.rowIs.cell h2 hs
   have f2:=World.rowIs.frozen h2 (Gf.sub k)
   have ix:=idx256 (f:=Gf.sub) hlt
   have E:Hid (∀ j,Gf.backTo (k + 1) j = if j = Gf.sub k then k else Gf.backTo k j):=fun j => rfl
   clear h1 h2 hb K1 K2 K3
   generalize Gf.sub k = P at *
   go_wp2
   go_roundw
   case rel =>
    refine ⟨k + 1,by omega,by go_num,H1.out.other (by show w.heap.size + 1≠w.heap.size + 1 + 1; omega) _,?_,HB.out.setCell (by show w.heap.size≤w.heap.size + 1 + 1; omega) _⟩
    exact (H2.out.set P k).congr (fun j hj => by rw [E.out j])
   case measure => simp [intOf]; omega
  ·have H2':Hid (Row8 wr (w.heap.size + 1 + 1) 259 256 Gf.unsub):=h2.congr (fun j hj => by rw [show k = 256 from by omega]; exact Gf.back_last j hj)
   clear h1 h2 hb K1 K2 K3 H2
   go_wp2_with (first
    | (refine wpList_load_mid rfl 259 (.tmp 3) rfl (w.heap.size + 1 + 1) 0 rfl (bv 256 Gf.unsub) _ H2'.out.range Tryz.underlying259 rfl (by rw [bv_length]; exact Tryz.size256) ?_)
    | (refine wpList_store_mid rfl 259 (.tmp 2) (.tmp 16) rfl (w.heap.size + 1) 0 (bA 256 Gf.unsub) rfl rfl (by rw [bA_size]; exact H1.out.there) (by rw [bA_size]; exact Tryz.size256) (bA_one _ _) ?_))
   rw [bA_toList]
   have L:(loadVar 259 ⟨w.heap.size + 1,0,none⟩).run Tryz.prog (wr.setCells (w.heap.size + 1) 0 (bv 256 Gf.unsub)) = .ok (.agg (bA 256 Gf.unsub)) (wr.setCells (w.heap.size + 1) 0 (bv 256 Gf.unsub)):=(H1.out.stored _).load Tryz.underlying259 rfl Tryz.size256
   have B:Below w.heap.size w (wr.setCells (w.heap.size + 1) 0 (bv 256 Gf.unsub)):=below_setCells (by omega) _ _ _ HB.out
   exact bodyPost_ret (v:=.agg (bA 256 Gf.unsub)) (results_cell_one (b:=w.heap.size + 1) (o:=0) Tryz.results219 _ _ _ rfl L) rfl ⟨rfl,B⟩
set_option maxRecDepth 100000 in
set_option maxHeartbeats 2000000 in
theorem subWord_any (a b c d:Nat) (ha:a < 256) (hb:b < 256) (hc:c < 256) (hd:d < 256) (w:World) :
  Calls Tryz.prog 233 #[.agg #[.int .u8 a,.int .u8 b,.int .u8 c,.int .u8 d],.agg (bA 256 Gf.sub)] w fun e w' => e = .returned (.agg #[.int .u8 (Gf.sub a:Nat),.int .u8 (Gf.sub b:Nat),.int .u8 (Gf.sub c:Nat),.int .u8 (Gf.sub d:Nat)])∧Below w.heap.size w w':=by
 have pa:=bA_at (n:=256) (f:=Gf.sub) ha
 have pb:=bA_at (n:=256) (f:=Gf.sub) hb
 have pc:=bA_at (n:=256) (f:=Gf.sub) hc
 have pd:=bA_at (n:=256) (f:=Gf.sub) hd
 have i0:=idx0
 have i1:=idx1
 have i2:=idx2
 have i3:=idx3
 generalize bA 256 Gf.sub = T at *
 generalize Gf.sub a = A at *
 generalize Gf.sub b = B at *
 generalize Gf.sub c = C at *
 generalize Gf.sub d = D at *
 go_enter Tryz.func233,Tryz.ntmps233
 go_wp2
 refine wp_loop_rounds 5 ?_
 rw [rounds_succ]
 go_wp2
 rw [rounds_succ]
 go_wp2
 rw [rounds_succ]
 go_wp2
 rw [rounds_succ]
 go_wp2
 rw [rounds_succ]
 go_wp2
 exact bodyPost_ret (v:=.agg #[.int .u8 (A:Nat),.int .u8 (B:Nat),.int .u8 (C:Nat),.int .u8 (D:Nat)]) (by simp [results,Tryz.results233,go_sem]) rfl ⟨rfl,(((Below.refl _ _).alloc (Nat.le_refl _) _).alloc (by simp) _).alloc (by simp; omega) _⟩
theorem run_index_part {P:Program} {t e:TypeId} {n m:Nat} {d:TypeDesc} (hu:P.underlying t = some (.array n e)) (he:P.underlying e = some d) (hd:d.isRow = true)
  (hs:(P.info? e).map (·.size) = some m) {A:Array Value} {k:Nat} (hk:k < n) (w:World) :
  (Instr.index t (.agg A) (.int .i64 (k:Int))).run P w = .ok (.agg (A.extract (k * m) (k * m + m))) w:=by
 cases hq:P.info? e with
 | none => simp [hq] at hs
 | some i =>
  have hz:i.size = m:=by simpa [hq] using hs
  have hagg:(isAgg e).run P w = .ok true w:=by
   unfold isAgg
   rw [Sem.run_bind,run_underlying he w]
   cases d <;> simp_all
  have hk1:(0:Int)≤(k:Int)∧(k:Int) < (n:Int):=by omega
  simp [Instr.index,asIntOf,Sem.run_bind,run_underlying hu w,hk1,sizeOf,typeInfo,hq,hz,part,hagg]
  intro h
  omega
theorem bA_extract4 {n:Nat} {f:Nat→Nat} {o:Nat} (h:o + 4≤n):(bA n f).extract o (o + 4) = #[.int .u8 (f o:Nat),.int .u8 (f (o + 1):Nat),.int .u8 (f (o + 2):Nat),.int .u8 (f (o + 3):Nat)]:=by
 apply Array.ext_getElem?
 intro i
 rw [Array.getElem?_extract]
 rcases (show i = 0∨i = 1∨i = 2∨i = 3∨4≤i by omega) with rfl | rfl | rfl | rfl | hi
 ·rw [if_pos (by rw [bA_size]; omega),bA_at (by omega)]; rfl
 ·rw [if_pos (by rw [bA_size]; omega),bA_at (by omega)]; rfl
 ·rw [if_pos (by rw [bA_size]; omega),bA_at (by omega)]; rfl
 ·rw [if_pos (by rw [bA_size]; omega),bA_at (by omega)]; rfl
 ·rw [if_neg (by rw [bA_size]; omega)]
  simp [hi]
theorem Tryz.infoK:(Tryz.prog.info? 258).map (fun i => (i.zero,i.size)) = some (some (.agg (Array.replicate 240 (.int .u8 0))),240):=by kernel_rfl
theorem Tryz.zeroK:∀ w,(zeroValue 258).run Tryz.prog w = .ok (.agg (Array.replicate 240 (.int .u8 0))) w:=(zero_of_info Tryz.infoK).1
theorem Tryz.sizeK:(Tryz.prog.info? 258).map (·.size) = some 240:=(zero_of_info Tryz.infoK).2
theorem Tryz.infoW:(Tryz.prog.info? 282).map (fun i => (i.zero,i.size)) = some (some (.agg (Array.replicate 240 (.int .u8 0))),240):=by kernel_rfl
theorem Tryz.zeroW:∀ w,(zeroValue 282).run Tryz.prog w = .ok (.agg (Array.replicate 240 (.int .u8 0))) w:=(zero_of_info Tryz.infoW).1
theorem Tryz.sizeW:(Tryz.prog.info? 282).map (·.size) = some 240:=(zero_of_info Tryz.infoW).2
theorem idxW {f:Nat→Nat} {k:Nat} (h:k < 60) (w:World):(Instr.index 282 (.agg (bA 240 f)) (.int .i64 (k:Int))).run Tryz.prog w = .ok (.agg #[.int .u8 (f (k * 4):Nat),.int .u8 (f (k * 4 + 1):Nat),.int .u8 (f (k * 4 + 2):Nat),.int .u8 (f (k * 4 + 3):Nat)]) w:=by
 rw [run_index_part (m:=4) Tryz.underlying282 Tryz.underlying281 rfl (by kernel_rfl) h w,bA_extract4 (by omega)]
set_option maxRecDepth 100000 in
set_option maxHeartbeats 2000000 in
theorem statesOf_any (f:Nat→Nat) (w:World) :
  Calls Tryz.prog 234 #[.agg (bA 240 f)] w fun e w' => e = .returned (.agg (bA 240 f))∧Below w.heap.size w w':=by
 have z1:=Tryz.zeroK
 have K0:Hid (Row8 (((w.alloc (.cells (bA 240 f) 282)).alloc (.cells (Array.replicate 240 (.int .u8 0)) 258)).alloc (.cells (Array.replicate 240 (.int .u8 0)) 258)) w.heap.size 282 240 f):=((Row8.boxedAt rfl _ _ _).alloc _).alloc _
 have K1:Hid (Row8 (((w.alloc (.cells (bA 240 f) 282)).alloc (.cells (Array.replicate 240 (.int .u8 0)) 258)).alloc (.cells (Array.replicate 240 (.int .u8 0)) 258)) (w.heap.size + 1) 258 240 (fun _ => 0)):=(Row8.zerosAt (by simp) _ _).alloc _
 have K2:Hid (Row8 (((w.alloc (.cells (bA 240 f) 282)).alloc (.cells (Array.replicate 240 (.int .u8 0)) 258)).alloc (.cells (Array.replicate 240 (.int .u8 0)) 258)) (w.heap.size + 1 + 1) 258 240 (fun _ => 0)):=Row8.zerosAt (by simp) _ _
 have K3:Hid (Below w.heap.size w (((w.alloc (.cells (bA 240 f) 282)).alloc (.cells (Array.replicate 240 (.int .u8 0)) 258)).alloc (.cells (Array.replicate 240 (.int .u8 0)) 258))):=(((Below.refl _ _).alloc (Nat.le_refl _) _).alloc (by simp) _).alloc (by simp; omega) _
 go_enter Tryz.func234,Tryz.ntmps234
 go_wp2_with (refine wpList_load_mid rfl 282 (.tmp 1) rfl w.heap.size 0 rfl (bv 240 f) _ K0.out.range Tryz.underlying282 rfl (by rw [bv_length]; exact Tryz.sizeW) ?_)
 generalize ((w.alloc (.cells (bA 240 f) 282)).alloc (.cells (Array.replicate 240 (.int .u8 0)) 258)).alloc (.cells (Array.replicate 240 (.int .u8 0)) 258) = wz at *
 have eA:(bv 240 f).toArray = bA 240 f:=rfl
 rw [eA]
 clear eA K0
 go_loopw [4,5,9] (fun _ _ i wr => ∃ k:Nat,k≤60∧i = .int .i64 k∧Row8 wr (w.heap.size + 1) 258 240 (fun _ => 0)∧Row8 wr (w.heap.size + 1 + 1) 258 240 (fun j => if j < k * 4 then f j else 0)∧Below w.heap.size w wr) (fun _ _ i _ => 60 - (intOf i).toNat)
 case atStart => exact ⟨0,by omega,rfl,K1.out,K2.out.congr (fun j hj => by simp),K3.out⟩
 case round =>
  obtain ⟨k,hk,rfl,h1,h2,hb⟩:=hrel
  have H1:Hid (Row8 wr (w.heap.size + 1) 258 240 (fun _ => 0)):=h1
  have H2:Hid (Row8 wr (w.heap.size + 1 + 1) 258 240 (fun j => if j < k * 4 then f j else 0)):=h2
  have HB:Hid (Below w.heap.size w wr):=hb
  by_cases hlt:k < 60
  ·have ix:=idxW (f:=f) hlt
   have hl2:=World.rowIs.lt h2
   have j0:=idx0
   have j1:=idx1
   have j2:=idx2
   have j3:=idx3
   have g0:=World.rowIs.cell h2 (i:=k * 4) (by omega)
   have g1:=World.rowIs.cell h2 (i:=k * 4 + 1) (by omega)
   have g2:=World.rowIs.cell h2 (i:=k * 4 + 2) (by omega)
   have g3:=World.rowIs.cell h2 (i:=k * 4 + 3) (by omega)
   have q0:=World.rowIs.frozen h2 (k * 4)
   have q1:=World.rowIs.frozen h2 (k * 4 + 1)
   have q2:=World.rowIs.frozen h2 (k * 4 + 2)
   have q3:=World.rowIs.frozen h2 (k * 4 + 3)
   clear h1 h2 hb K1 K2 K3
   have o0:k / 4 * 16 + k % 4 * 4 = k * 4:=by omega
   have o1:k / 4 * 16 + (k % 4 * 4 + 1) = k * 4 + 1:=by omega
   have o2:k / 4 * 16 + (k % 4 * 4 + 2) = k * 4 + 2:=by omega
   have o3:k / 4 * 16 + (k % 4 * 4 + 3) = k * 4 + 3:=by omega
   go_wp2
   refine wp_loop_rounds 5 ?_
   rw [rounds_succ]
   go_wp2
   rw [rounds_succ]
   go_wp2
   rw [rounds_succ]
   go_wp2
   rw [rounds_succ]
   go_wp2
   rw [rounds_succ]
   go_wp2
   go_roundw
   case rel =>
    refine ⟨k + 1,by omega,by go_num,((((H1.out.other (by show w.heap.size + 1≠w.heap.size + 1 + 1; omega) _).other (by show w.heap.size + 1≠w.heap.size + 1 + 1; omega) _).other (by show w.heap.size + 1≠w.heap.size + 1 + 1; omega) _).other (by show w.heap.size + 1≠w.heap.size + 1 + 1; omega) _).alloc _,?_,((((HB.out.setCell (by show w.heap.size≤w.heap.size + 1 + 1; omega) _).setCell (by show w.heap.size≤w.heap.size + 1 + 1; omega) _).setCell (by show w.heap.size≤w.heap.size + 1 + 1; omega) _).setCell (by show w.heap.size≤w.heap.size + 1 + 1; omega) _).alloc (by simpa using HB.out.size) _⟩
    exact (((((H2.out.set (k * 4) (f (k * 4))).set (k * 4 + 1) (f (k * 4 + 1))).set (k * 4 + 2) (f (k * 4 + 2))).set (k * 4 + 3) (f (k * 4 + 3))).alloc _).congr (fun j hj => by
     by_cases h1:j < k * 4
     ·rw [if_neg (by omega),if_neg (by omega),if_neg (by omega),if_neg (by omega),if_pos h1,if_pos (by omega)]
     ·by_cases h2:j < (k + 1) * 4
      ·rw [if_pos h2]
       rcases (show j = k * 4∨j = k * 4 + 1∨j = k * 4 + 2∨j = k * 4 + 3 by omega) with rfl | rfl | rfl | rfl <;> simp
      ·rw [if_neg (by omega),if_neg (by omega),if_neg (by omega),if_neg (by omega),if_neg h1,if_neg h2])
   case measure => simp [intOf]; omega
  ·have H2':Hid (Row8 wr (w.heap.size + 1 + 1) 258 240 f):=h2.congr (fun j hj => by rw [if_pos (by omega)])
   clear h1 h2 hb K1 K2 K3 H2
   go_wp2_with (first
    | (refine wpList_load_mid rfl 258 (.tmp 3) rfl (w.heap.size + 1 + 1) 0 rfl (bv 240 f) _ H2'.out.range Tryz.underlying258 rfl (by rw [bv_length]; exact Tryz.sizeK) ?_)
    | (refine wpList_store_mid rfl 258 (.tmp 2) (.tmp 30) rfl (w.heap.size + 1) 0 (bA 240 f) rfl rfl (by rw [bA_size]; exact H1.out.there) (by rw [bA_size]; exact Tryz.sizeK) (bA_one _ _) ?_))
   rw [bA_toList]
   have L:(loadVar 258 ⟨w.heap.size + 1,0,none⟩).run Tryz.prog (wr.setCells (w.heap.size + 1) 0 (bv 240 f)) = .ok (.agg (bA 240 f)) (wr.setCells (w.heap.size + 1) 0 (bv 240 f)):=(H1.out.stored _).load Tryz.underlying258 rfl Tryz.sizeK
   have B:Below w.heap.size w (wr.setCells (w.heap.size + 1) 0 (bv 240 f)):=below_setCells (by omega) _ _ _ HB.out
   exact bodyPost_ret (v:=.agg (bA 240 f)) (results_cell_one (b:=w.heap.size + 1) (o:=0) Tryz.results234 _ _ _ rfl L) rfl ⟨rfl,B⟩
end Go.Proofs.YtcpjeopnhgoonaaGreatDoor
namespace Go.Proofs.YtcpjeopnhgoonaaGreatDoor
open Go.ChangeShapes Go.WideShapes Go.ChangeAt Go.RowKit
namespace Gf
def pows:Nat→Nat
 | 0 => 1
 | k + 1 => dbl (pows k)
theorem pows_lt (k:Nat):pows k < 256:=by
 induction k with
 | zero => decide
 | succ k ih => exact dbl_lt _ ih
def kt (n:Nat) (L:Nat→Nat) (i r:Nat):Nat :=
 if i % n = 0 then (if r = 0 then sub (L 1) ^^^ pows (i / n - 1) else sub (L ((r + 1) % 4))) else if n = 8∧i % 8 = 4 then sub (L r) else L r
def ws (key:Nat→Nat) (n:Nat):Nat→Nat→Nat
 | 0,j => if j < n * 4 then key j else 0
 | s + 1,j => if (n + s) * 4≤j∧j < (n + s) * 4 + 4 then ws key n s (s * 4 + (j - (n + s) * 4)) ^^^ kt n (fun r => ws key n s ((n + s - 1) * 4 + r)) (n + s) (j - (n + s) * 4) else ws key n s j
theorem kt_lt {n:Nat} {L:Nat→Nat} (hL:∀ r,r < 4→L r < 256) (i r:Nat) (hr:r < 4):kt n L i r < 256:=by
 unfold kt
 split
 ·split
  ·exact xor_lt (sub_lt _ (hL 1 (by omega))) (pows_lt _)
  ·exact sub_lt _ (hL _ (Nat.mod_lt _ (by omega)))
 ·split
  ·exact sub_lt _ (hL r hr)
  ·exact hL r hr
theorem ws_lt {key:Nat→Nat} {n:Nat} (hk:∀ j,key j < 256):∀ s j,ws key n s j < 256:=by
 intro s
 induction s with
 | zero => intro j; unfold ws; split; exact hk j; omega
 | succ s ih =>
  intro j
  show (if (n + s) * 4≤j∧j < (n + s) * 4 + 4 then _ else _) < 256
  split
  ·exact xor_lt (ih _) (kt_lt (fun r _ => ih _) _ _ (by omega))
  ·exact ih j
theorem ws_new {key:Nat→Nat} {n:Nat} (s r:Nat) (hr:r < 4):ws key n (s + 1) ((n + s) * 4 + r) = ws key n s (s * 4 + r) ^^^ kt n (fun r => ws key n s ((n + s - 1) * 4 + r)) (n + s) r:=by
 show (if (n + s) * 4≤(n + s) * 4 + r∧(n + s) * 4 + r < (n + s) * 4 + 4 then _ else _) = _
 rw [if_pos (by omega),show (n + s) * 4 + r - (n + s) * 4 = r from by omega]
theorem ws_old {key:Nat→Nat} {n:Nat} (s j:Nat) (h:j < (n + s) * 4∨(n + s) * 4 + 4≤j):ws key n (s + 1) j = ws key n s j:=by
 show (if (n + s) * 4≤j∧j < (n + s) * 4 + 4 then _ else _) = _
 rw [if_neg (by omega)]
end Gf
theorem four_cells {w:World} (x0 x1 x2 x3:Value) (f:Nat→Value) (h0:x0 = f 0) (h1:x1 = f 1) (h2:x2 = f 2) (h3:x3 = f 3) (t:TypeId):(w.alloc (.cells #[x0,x1,x2,x3] t)).rowIs w.heap.size t 4 f:=by
 refine World.rowIs_alloc w #[x0,x1,x2,x3] t f (fun i hi => ?_)
 have hi':i < 4:=hi
 rcases (show i = 0∨i = 1∨i = 2∨i = 3 by omega) with rfl | rfl | rfl | rfl
 ·simp [h0]
 ·simp [h1]
 ·simp [h2]
 ·simp [h3]
set_option maxRecDepth 100000 in
set_option maxHeartbeats 4000000 in
theorem roundKeys_any (s:ByteArray) (n:Nat) (hn:n = 4∨n = 8) (hs:s.size = n * 4) (w:World) :
  Calls Tryz.prog 218 #[.string s,.agg (bA 256 Gf.sub)] w fun e w' => e = .returned (.agg (bA 240 (Gf.ws (strB s) n (3 * n + 28))))∧Below w.heap.size w w':=by
 have z1:=Tryz.zeroK
 have z2:=Tryz.zeroW
 have hs':Hid (s.size = n * 4):=hs
 have hsz:s.size≤32:=by omega
 clear hs
 have K0:Hid (Row8 (((w.alloc (.cells (bA 256 Gf.sub) 259)).alloc (.cells (Array.replicate 240 (.int .u8 0)) 258)).alloc (.cells (Array.replicate 240 (.int .u8 0)) 282)) w.heap.size 259 256 Gf.sub):=((Row8.boxedAt rfl _ _ _).alloc _).alloc _
 have K1:Hid (Row8 (((w.alloc (.cells (bA 256 Gf.sub) 259)).alloc (.cells (Array.replicate 240 (.int .u8 0)) 258)).alloc (.cells (Array.replicate 240 (.int .u8 0)) 282)) (w.heap.size + 1) 258 240 (fun _ => 0)):=(Row8.zerosAt (by simp) _ _).alloc _
 have K2:Hid (Row8 (((w.alloc (.cells (bA 256 Gf.sub) 259)).alloc (.cells (Array.replicate 240 (.int .u8 0)) 258)).alloc (.cells (Array.replicate 240 (.int .u8 0)) 282)) (w.heap.size + 1 + 1) 282 240 (fun _ => 0)):=Row8.zerosAt (by simp) _ _
 have K3:Hid (Below w.heap.size w (((w.alloc (.cells (bA 256 Gf.sub) 259)).alloc (.cells (Array.replicate 240 (.int .u8 0)) 258)).alloc (.cells (Array.replicate 240 (.int .u8 0)) 282))):=(((Below.refl _ _).alloc (Nat.le_refl _) _).alloc (by simp) _).alloc (by simp; omega) _
 go_enter Tryz.func218,Tryz.ntmps218
 go_wp2
 generalize ((w.alloc (.cells (bA 256 Gf.sub) 259)).alloc (.cells (Array.replicate 240 (.int .u8 0)) 258)).alloc (.cells (Array.replicate 240 (.int .u8 0)) 282) = wz at *
 go_loopw [6,14] (fun _ i wr => ∃ k:Nat,k≤s.size∧i = .int .i64 k∧Row8 wr w.heap.size 259 256 Gf.sub∧Row8 wr (w.heap.size + 1) 258 240 (fun _ => 0)∧Row8 wr (w.heap.size + 1 + 1) 282 240 (fun j => if j < k then strB s j else 0)∧Below w.heap.size w wr) (fun _ i _ => s.size - (intOf i).toNat)
 case atStart => exact ⟨0,by omega,rfl,K0.out,K1.out,K2.out.congr (fun j hj => by simp),K3.out⟩
 case round =>
  obtain ⟨k,hk,rfl,h0,h1,h2,hb⟩:=hrel
  have H0:Hid (Row8 wr w.heap.size 259 256 Gf.sub):=h0
  have H1:Hid (Row8 wr (w.heap.size + 1) 258 240 (fun _ => 0)):=h1
  have H2:Hid (Row8 wr (w.heap.size + 1 + 1) 282 240 (fun j => if j < k then strB s j else 0)):=h2
  have HB:Hid (Below w.heap.size w wr):=hb
  by_cases hlt:k < s.size
  ·have c2:=World.rowIs.cell h2 (i:=k) (by omega)
   have f2:=World.rowIs.frozen h2 k
   have es:=strB_eq s k hlt
   have o0:k / 4 * 4 + k % 4 = k:=by omega
   have q1:(k:Int) / 4 < 60:=by omega
   have q2:(k:Int) % 4 < 4:=by omega
   clear h0 h1 h2 hb K0 K1 K2 K3
   go_wp2
   go_region
   go_wp2
   go_roundw
   case rel =>
    refine ⟨k + 1,by omega,by go_num,(H0.out.other (by show w.heap.size≠w.heap.size + 1 + 1; omega) _).drewN 1,(H1.out.other (by show w.heap.size + 1≠w.heap.size + 1 + 1; omega) _).drewN 1,?_,below_drewN (HB.out.setCell (by show w.heap.size≤w.heap.size + 1 + 1; omega) _) 1⟩
    exact ((H2.out.set k (strB s k)).congr (fun j hj => by
     by_cases e:j = k
     ·subst e; simp
     ·simp only [if_neg e]
      by_cases h1:j < k
      ·rw [if_pos h1,if_pos (by omega)]
      ·rw [if_neg h1,if_neg (by omega)])).drewN 1
   case measure => simp [intOf]; omega
  ·have H2':Hid (Row8 wr (w.heap.size + 1 + 1) 282 240 (Gf.ws (strB s) n 0)):=h2.congr (fun j hj => by
    show _ = if j < n * 4 then strB s j else 0
    have:=hs'.out
    rw [show k = n * 4 from by omega])
   have hk':¬ (k:Int) < (s.size:Int):=by omega
   have hse:=hs'.out
   have hse':(s.size:Int) = (n * 4:Nat):=by omega
   clear h0 h1 h2 hb K0 K1 K2 K3 H2
   have E4:(s.size:Int) / 4 = n:=by omega
   clear hse hse'
   generalize (k:Int) = kk at *
   go_wp2
   go_loopw [8,9,10] (fun p i _ wq => ∃ I:Nat,n≤I∧I≤4 * n + 28∧i = .int .i64 I∧p = .int .u8 (Gf.pows ((I - 1) / n):Nat)∧Row8 wq w.heap.size 259 256 Gf.sub∧Row8 wq (w.heap.size + 1) 258 240 (fun _ => 0)∧Row8 wq (w.heap.size + 1 + 1) 282 240 (Gf.ws (strB s) n (I - n))∧Below w.heap.size w wq) (fun _ i _ _ => 4 * n + 28 - (intOf i).toNat)
   case atStart =>
    refine ⟨n,Nat.le_refl _,by omega,rfl,?_,H0.out,H1.out,by rw [Nat.sub_self]; exact H2'.out,HB.out⟩
    rw [Nat.div_eq_of_lt (by omega)]; rfl
   case round =>
    clear H0 H1 H2' HB
    obtain ⟨I,hI1,hI2,rfl,rfl,h0,h1,h2,hb⟩:=hrel
    have H0:Hid (Row8 wr w.heap.size 259 256 Gf.sub):=h0
    have H1:Hid (Row8 wr (w.heap.size + 1) 258 240 (fun _ => 0)):=h1
    have H2:Hid (Row8 wr (w.heap.size + 1 + 1) 282 240 (Gf.ws (strB s) n (I - n))):=h2
    have HB:Hid (Below w.heap.size w wr):=hb
    by_cases hI:I < 4 * n + 28
    ·have lf:∀ j,Gf.ws (strB s) n (I - n) j < 256:=Gf.ws_lt (strB_lt s) _
     have LF:Hid (∀ j,Gf.ws (strB s) n (I - n) j < 256):=lf
     have lp:=Gf.pows_lt ((I - 1) / n)
     have F2:Hid (∀ j,Gf.ws (strB s) n (I + 1 - n) j = if I * 4≤j∧j < I * 4 + 4 then Gf.ws (strB s) n (I - n) ((I - n) * 4 + (j - I * 4)) ^^^ Gf.kt n (fun r => Gf.ws (strB s) n (I - n) ((I - 1) * 4 + r)) I (j - I * 4) else Gf.ws (strB s) n (I - n) j):=fun j => by
      have e:I + 1 - n = (I - n) + 1:=by omega
      have e2:n + (I - n) = I:=by omega
      rw [e]
      show (if (n + (I - n)) * 4≤j∧j < (n + (I - n)) * 4 + 4 then _ else _) = _
      rw [e2]
     have P2:Hid (I % n = 0→Gf.pows ((I + 1 - 1) / n) = Gf.dbl (Gf.pows ((I - 1) / n))):=fun h => by
      have e:I / n = (I - 1) / n + 1:=by
       rcases hn with rfl | rfl <;> omega
      show Gf.pows (I / n) = _
      rw [e]; rfl
     have P3:Hid (I % n≠0→Gf.pows ((I + 1 - 1) / n) = Gf.pows ((I - 1) / n)):=fun h => by
      have e:I / n = (I - 1) / n:=by
       rcases hn with rfl | rfl <;> omega
      show Gf.pows (I / n) = _
      rw [e]
     have P4:Hid (I % n = 0→(I - 1) / n = I / n - 1):=fun h => by rcases hn with rfl | rfl <;> omega
     have hl2:=World.rowIs.lt h2
     have g0:=World.rowIs.cell h2 (i:=(I - 1) * 4) (by omega)
     have g1:=World.rowIs.cell h2 (i:=(I - 1) * 4 + 1) (by omega)
     have g2:=World.rowIs.cell h2 (i:=(I - 1) * 4 + 2) (by omega)
     have g3:=World.rowIs.cell h2 (i:=(I - 1) * 4 + 3) (by omega)
     have KT:Hid (∀ r,Gf.kt n (fun r => Gf.ws (strB s) n (I - n) ((I - 1) * 4 + r)) I r = Gf.kt n (fun r => Gf.ws (strB s) n (I - n) ((I - 1) * 4 + r)) I r):=fun _ => rfl
     clear h0 h1 h2 hb lf
     generalize Gf.ws (strB s) n (I - n) = f at *
     generalize hpw:Gf.pows ((I - 1) / n) = pw at *
     have HP:Hid (Gf.pows ((I - 1) / n) = pw):=hpw
     clear hpw
     by_cases hA:I % n = 0
     ·have em:((I:Int).tmod (n:Int) == 0) = true:=by rw [← Int.ofNat_tmod,hA]; rfl
      go_wp2_with (first
       | (refine wpList_load_mid rfl 259 (.tmp 3) rfl w.heap.size 0 rfl (bv 256 Gf.sub) _ (H0.out.alloc _).range Tryz.underlying259 rfl (by rw [bv_length]; exact Tryz.size256) ?_))
      refine (subWord_any (f ((I - 1) * 4 + 1)) (f ((I - 1) * 4 + 2)) (f ((I - 1) * 4 + 3)) (f ((I - 1) * 4)) (LF.out _) (LF.out _) (LF.out _) (LF.out _) _).mono ?_
      rintro e w1 ⟨rfl,hB⟩
      have rl:=(four_cells (w:=wr) (.int .u8 (f ((I - 1) * 4):Nat)) (.int .u8 (f ((I - 1) * 4 + 1):Nat)) (.int .u8 (f ((I - 1) * 4 + 2):Nat)) (.int .u8 (f ((I - 1) * 4 + 3):Nat)) (fun r => .int .u8 (f ((I - 1) * 4 + r):Nat)) rfl rfl rfl rfl 281).of_block (hB.block _ (by simp))
      have R0:Hid (Row8 w1 w.heap.size 259 256 Gf.sub):=(H0.out.alloc _).below hB
      have R1:Hid (Row8 w1 (w.heap.size + 1) 258 240 (fun _ => 0)):=(H1.out.alloc _).below hB
      have R2:Hid (Row8 w1 (w.heap.size + 1 + 1) 282 240 f):=(H2.out.alloc _).below hB
      have B1:Hid (Below w.heap.size w w1):=(HB.out.alloc HB.out.size _).trans (hB.mono (by have:=HB.out.size; simp; omega))
      have RL:Hid (w1.rowIs wr.heap.size 281 4 (fun r => .int .u8 (f ((I - 1) * 4 + r):Nat))):=rl
      have k0:=rl.cell (i:=0) (by omega)
      have k1:=rl.cell (i:=1) (by omega)
      have k2:=rl.cell (i:=2) (by omega)
      have k3:=rl.cell (i:=3) (by omega)
      have q0:=rl.frozen 0
      have q1:=rl.frozen 1
      have q2:=rl.frozen 2
      have q3:=rl.frozen 3
      have s0:=Gf.sub_lt _ (LF.out ((I - 1) * 4 + 1))
      have ex0:bits .xor .u8 (Gf.sub (f ((I - 1) * 4 + 1)):Int) (pw:Int) = ((Gf.sub (f ((I - 1) * 4 + 1)) ^^^ pw:Nat):Int):=u8_xor_nat _ _ s0 lp
      clear hB rl g0 g1 g2 g3 H0 H1 H2 HB
      go_wp2_with (go_at_call 231; refine (double_any pw lp _).mono ?_; rintro e w' ⟨rfl,rfl⟩)
      have W1:∀ {b:Nat},b≠wr.heap.size→True:=fun _ => trivial
      clear W1
      have lL:w.heap.size + 1 + 1 < wr.heap.size:=hl2
      generalize hT:(fun r => Gf.kt n (fun r => f ((I - 1) * 4 + r)) I r) = T
      have LT:Hid (∀ r,r < 4→T r < 256):=fun r hr => by rw [← hT]; exact Gf.kt_lt (fun _ _ => LF.out _) _ _ hr
      have ET:Hid (∀ r,r < 4→T r = Gf.kt n (fun r => f ((I - 1) * 4 + r)) I r):=fun r _ => by rw [← hT]
      have PP:=P4.out hA
      have VT:(Gf.sub (f ((I - 1) * 4 + 1)) ^^^ pw = T 0)∧Gf.sub (f ((I - 1) * 4 + 2)) = T 1∧Gf.sub (f ((I - 1) * 4 + 3)) = T 2∧Gf.sub (f ((I - 1) * 4)) = T 3:=by
       refine ⟨?_,?_,?_,?_⟩
       ·rw [← hT]; show _ = Gf.kt n _ I 0; rw [Gf.kt,if_pos hA,if_pos rfl,← PP,HP.out]
       ·rw [← hT]; show _ = Gf.kt n _ I 1; rw [Gf.kt,if_pos hA,if_neg (by omega)]
       ·rw [← hT]; show _ = Gf.kt n _ I 2; rw [Gf.kt,if_pos hA,if_neg (by omega)]
       ·rw [← hT]; show _ = Gf.kt n _ I 3; rw [Gf.kt,if_pos hA,if_neg (by omega)]; rfl
      clear hT
      obtain ⟨v0,v1,v2,v3⟩:=VT
      rw [v0,v1,v2,v3]
      generalize Gf.sub (f ((I - 1) * 4 + 1)) = S0 at *
      have NE:∀ b,b≤w.heap.size + 1 + 1→b≠wr.heap.size:=fun b hb => by omega
      have R0':Hid (Row8 (((((w1.setCell ⟨wr.heap.size,0,none⟩ (.int .u8 (S0:Nat))).setCell ⟨wr.heap.size,1,none⟩ (.int .u8 (T 1:Nat))).setCell ⟨wr.heap.size,2,none⟩ (.int .u8 (T 2:Nat))).setCell ⟨wr.heap.size,3,none⟩ (.int .u8 (T 3:Nat))).setCell ⟨wr.heap.size,0,none⟩ (.int .u8 (T 0:Nat))) w.heap.size 259 256 Gf.sub):=((((R0.out.other (NE _ (by omega)) _).other (NE _ (by omega)) _).other (NE _ (by omega)) _).other (NE _ (by omega)) _).other (NE _ (by omega)) _
      have R1':Hid (Row8 (((((w1.setCell ⟨wr.heap.size,0,none⟩ (.int .u8 (S0:Nat))).setCell ⟨wr.heap.size,1,none⟩ (.int .u8 (T 1:Nat))).setCell ⟨wr.heap.size,2,none⟩ (.int .u8 (T 2:Nat))).setCell ⟨wr.heap.size,3,none⟩ (.int .u8 (T 3:Nat))).setCell ⟨wr.heap.size,0,none⟩ (.int .u8 (T 0:Nat))) (w.heap.size + 1) 258 240 (fun _ => 0)):=((((R1.out.other (NE _ (by omega)) _).other (NE _ (by omega)) _).other (NE _ (by omega)) _).other (NE _ (by omega)) _).other (NE _ (by omega)) _
      have R2':Hid (Row8 (((((w1.setCell ⟨wr.heap.size,0,none⟩ (.int .u8 (S0:Nat))).setCell ⟨wr.heap.size,1,none⟩ (.int .u8 (T 1:Nat))).setCell ⟨wr.heap.size,2,none⟩ (.int .u8 (T 2:Nat))).setCell ⟨wr.heap.size,3,none⟩ (.int .u8 (T 3:Nat))).setCell ⟨wr.heap.size,0,none⟩ (.int .u8 (T 0:Nat))) (w.heap.size + 1 + 1) 282 240 f):=((((R2.out.other (NE _ (by omega)) _).other (NE _ (by omega)) _).other (NE _ (by omega)) _).other (NE _ (by omega)) _).other (NE _ (by omega)) _
      have RL':Hid ((((((w1.setCell ⟨wr.heap.size,0,none⟩ (.int .u8 (S0:Nat))).setCell ⟨wr.heap.size,1,none⟩ (.int .u8 (T 1:Nat))).setCell ⟨wr.heap.size,2,none⟩ (.int .u8 (T 2:Nat))).setCell ⟨wr.heap.size,3,none⟩ (.int .u8 (T 3:Nat))).setCell ⟨wr.heap.size,0,none⟩ (.int .u8 (T 0:Nat))).rowIs wr.heap.size 281 4 (fun r => .int .u8 (T r:Nat))):=(((((RL.out.set 0 _).set 1 _).set 2 _).set 3 _).set 0 _).congr (fun r hr => by
       rcases (show r = 0∨r = 1∨r = 2∨r = 3 by omega) with rfl | rfl | rfl | rfl <;> simp)
      have B1':Hid (Below w.heap.size w (((((w1.setCell ⟨wr.heap.size,0,none⟩ (.int .u8 (S0:Nat))).setCell ⟨wr.heap.size,1,none⟩ (.int .u8 (T 1:Nat))).setCell ⟨wr.heap.size,2,none⟩ (.int .u8 (T 2:Nat))).setCell ⟨wr.heap.size,3,none⟩ (.int .u8 (T 3:Nat))).setCell ⟨wr.heap.size,0,none⟩ (.int .u8 (T 0:Nat)))):=((((B1.out.setCell (by show w.heap.size≤wr.heap.size; omega) _).setCell (by show w.heap.size≤wr.heap.size; omega) _).setCell (by show w.heap.size≤wr.heap.size; omega) _).setCell (by show w.heap.size≤wr.heap.size; omega) _).setCell (by show w.heap.size≤wr.heap.size; omega) _
      clear R0 R1 R2 RL B1 v0 v1 v2 v3 k0 k1 k2 k3 q0 q1 q2 q3 ex0 s0 NE PP em
      generalize ((((w1.setCell ⟨wr.heap.size,0,none⟩ (.int .u8 (S0:Nat))).setCell ⟨wr.heap.size,1,none⟩ (.int .u8 (T 1:Nat))).setCell ⟨wr.heap.size,2,none⟩ (.int .u8 (T 2:Nat))).setCell ⟨wr.heap.size,3,none⟩ (.int .u8 (T 3:Nat))).setCell ⟨wr.heap.size,0,none⟩ (.int .u8 (T 0:Nat)) = wq at *
      generalize wr.heap.size = L at *
      have R0:=R0'
      have R1:=R1'
      have R2:=R2'
      have RL:=RL'
      have B1:=B1'
      clear R0' R1' R2' RL' B1'
      go_loopw [11,74] (fun _ i wy => ∃ r:Nat,r≤4∧i = .int .i64 r∧Row8 wy w.heap.size 259 256 Gf.sub∧Row8 wy (w.heap.size + 1) 258 240 (fun _ => 0)∧Row8 wy (w.heap.size + 1 + 1) 282 240 (fun j => if I * 4≤j∧j < I * 4 + r then f ((I - n) * 4 + (j - I * 4)) ^^^ T (j - I * 4) else f j)∧wy.rowIs L 281 4 (fun r => .int .u8 (T r:Nat))∧Below w.heap.size w wy) (fun _ i _ => 4 - (intOf i).toNat)
      case atStart => exact ⟨0,by omega,rfl,R0.out,R1.out,R2.out.congr (fun j hj => by rw [if_neg (by omega)]),RL.out,B1.out⟩
      case round =>
       clear R0 R1 R2 RL B1
       obtain ⟨r,hr,rfl,h0,h1,h2,hl,hb⟩:=hrel
       have H0:Hid (Row8 wr w.heap.size 259 256 Gf.sub):=h0
       have H1:Hid (Row8 wr (w.heap.size + 1) 258 240 (fun _ => 0)):=h1
       have H2:Hid (Row8 wr (w.heap.size + 1 + 1) 282 240 (fun j => if I * 4≤j∧j < I * 4 + r then f ((I - n) * 4 + (j - I * 4)) ^^^ T (j - I * 4) else f j)):=h2
       have HL:Hid (wr.rowIs L 281 4 (fun r => .int .u8 (T r:Nat))):=hl
       have HB:Hid (Below w.heap.size w wr):=hb
       by_cases hr4:r < 4
       ·have c1:=World.rowIs.cell h2 (i:=(I - n) * 4 + r) (by omega)
        simp only [] at c1
        rw [if_neg (by omega)] at c1
        have c2:=hl.cell hr4
        have c3:=World.rowIs.cell h2 (i:=I * 4 + r) (by omega)
        have f3:=World.rowIs.frozen h2 (I * 4 + r)
        have lt:=LT.out r hr4
        have lff:=LF.out ((I - n) * 4 + r)
        have ex:bits .xor .u8 (f ((I - n) * 4 + r):Int) (T r:Int) = ((f ((I - n) * 4 + r) ^^^ T r:Nat):Int):=u8_xor_nat _ _ lff lt
        have x1:(I:Int) - (n:Int) < 60:=by omega
        have x2:(I:Int) < 60:=by omega
        have x3:(r:Int) < 4:=by omega
        clear h0 h1 h2 hl hb
        go_wp2
        go_region
        go_wp2
        go_roundw
        case rel =>
         refine ⟨r + 1,by omega,by go_num,(H0.out.other (by show w.heap.size≠w.heap.size + 1 + 1; omega) _).drewN 1,(H1.out.other (by show w.heap.size + 1≠w.heap.size + 1 + 1; omega) _).drewN 1,?_,HL.out.setOther (by show L≠w.heap.size + 1 + 1; omega) _,below_drewN (HB.out.setCell (by show w.heap.size≤w.heap.size + 1 + 1; omega) _) 1⟩
         exact ((H2.out.set (I * 4 + r) (f ((I - n) * 4 + r) ^^^ T r)).congr (fun j hj => by
          by_cases e:j = I * 4 + r
          ·rw [if_pos e,if_pos (by omega),show j - I * 4 = r from by omega]
          ·rw [if_neg e]
           by_cases h1:I * 4≤j∧j < I * 4 + r
           ·rw [if_pos h1,if_pos (by omega)]
           ·rw [if_neg h1,if_neg (by omega)])).drewN 1
        case measure => simp [intOf]; omega
       ·have R2':Hid (Row8 wr (w.heap.size + 1 + 1) 282 240 (Gf.ws (strB s) n (I + 1 - n))):=h2.congr (fun j hj => by
         rw [F2.out j]
         by_cases h1:I * 4≤j∧j < I * 4 + 4
         ·rw [if_pos (by omega),if_pos h1,ET.out _ (by omega)]
         ·rw [if_neg (by omega),if_neg h1])
        have hr':¬ (r:Int) < 4:=by omega
        clear h0 h1 h2 hl hb H2 HL
        go_wp2
        go_roundw
        case rel => exact ⟨I + 1,by omega,by omega,by go_num,val_int (by rw [P2.out hA]),H0.out,H1.out,R2'.out,HB.out⟩
        case measure => simp [intOf]; omega
     ·have em:((I:Int).tmod (n:Int) == 0) = false:=by
       rw [← Int.ofNat_tmod,beq_eq_false_iff_ne]; omega
      have em':((I:Int) % (n:Int) == 0) = false:=by
       rw [← Int.natCast_emod,beq_eq_false_iff_ne]; omega
      have lL:w.heap.size + 1 + 1 < wr.heap.size:=hl2
      by_cases h8:n = 8∧I % 8 = 4
      ·have t1:((n:Int) == 8) = true:=by rw [beq_iff_eq]; omega
       have t2:((I:Int) % 8 == 4) = true:=by rw [beq_iff_eq]; omega
       have H8:Hid (n = 8∧I % 8 = 4):=h8
       clear h8
       go_wp2_with (first
        | (refine wpList_load_mid rfl 259 (.tmp 3) rfl w.heap.size 0 rfl (bv 256 Gf.sub) _ (H0.out.alloc _).range Tryz.underlying259 rfl (by rw [bv_length]; exact Tryz.size256) ?_))
       refine (subWord_any (f ((I - 1) * 4)) (f ((I - 1) * 4 + 1)) (f ((I - 1) * 4 + 2)) (f ((I - 1) * 4 + 3)) (LF.out _) (LF.out _) (LF.out _) (LF.out _) _).mono ?_
       rintro e w1 ⟨rfl,hB⟩
       have rl:=(four_cells (w:=wr) (.int .u8 (f ((I - 1) * 4):Nat)) (.int .u8 (f ((I - 1) * 4 + 1):Nat)) (.int .u8 (f ((I - 1) * 4 + 2):Nat)) (.int .u8 (f ((I - 1) * 4 + 3):Nat)) (fun r => .int .u8 (f ((I - 1) * 4 + r):Nat)) rfl rfl rfl rfl 281).of_block (hB.block _ (by simp))
       have R0:Hid (Row8 w1 w.heap.size 259 256 Gf.sub):=(H0.out.alloc _).below hB
       have R1:Hid (Row8 w1 (w.heap.size + 1) 258 240 (fun _ => 0)):=(H1.out.alloc _).below hB
       have R2:Hid (Row8 w1 (w.heap.size + 1 + 1) 282 240 f):=(H2.out.alloc _).below hB
       have B1:Hid (Below w.heap.size w w1):=(HB.out.alloc HB.out.size _).trans (hB.mono (by have:=HB.out.size; simp; omega))
       have RL:Hid (w1.rowIs wr.heap.size 281 4 (fun r => .int .u8 (f ((I - 1) * 4 + r):Nat))):=rl
       have k0:=rl.cell (i:=0) (by omega)
       have k1:=rl.cell (i:=1) (by omega)
       have k2:=rl.cell (i:=2) (by omega)
       have k3:=rl.cell (i:=3) (by omega)
       have q0:=rl.frozen 0
       have q1:=rl.frozen 1
       have q2:=rl.frozen 2
       have q3:=rl.frozen 3
       clear hB rl g0 g1 g2 g3 H0 H1 H2 HB
       go_wp2_with fail
       generalize hT:(fun r => Gf.kt n (fun r => f ((I - 1) * 4 + r)) I r) = T
       have LT:Hid (∀ r,r < 4→T r < 256):=fun r hr => by rw [← hT]; exact Gf.kt_lt (fun _ _ => LF.out _) _ _ hr
       have ET:Hid (∀ r,r < 4→T r = Gf.kt n (fun r => f ((I - 1) * 4 + r)) I r):=fun r _ => by rw [← hT]
       have VT:Gf.sub (f ((I - 1) * 4)) = T 0∧Gf.sub (f ((I - 1) * 4 + 1)) = T 1∧Gf.sub (f ((I - 1) * 4 + 2)) = T 2∧Gf.sub (f ((I - 1) * 4 + 3)) = T 3:=by
        refine ⟨?_,?_,?_,?_⟩
        ·rw [← hT]; show _ = Gf.kt n _ I 0; rw [Gf.kt,if_neg hA,if_pos H8.out]; rfl
        ·rw [← hT]; show _ = Gf.kt n _ I 1; rw [Gf.kt,if_neg hA,if_pos H8.out]
        ·rw [← hT]; show _ = Gf.kt n _ I 2; rw [Gf.kt,if_neg hA,if_pos H8.out]
        ·rw [← hT]; show _ = Gf.kt n _ I 3; rw [Gf.kt,if_neg hA,if_pos H8.out]
       clear hT
       obtain ⟨v0,v1,v2,v3⟩:=VT
       rw [v0,v1,v2,v3]
       have NE:∀ b,b≤w.heap.size + 1 + 1→b≠wr.heap.size:=fun b hb => by omega
       have R0':Hid (Row8 ((((w1.setCell ⟨wr.heap.size,0,none⟩ (.int .u8 (T 0:Nat))).setCell ⟨wr.heap.size,1,none⟩ (.int .u8 (T 1:Nat))).setCell ⟨wr.heap.size,2,none⟩ (.int .u8 (T 2:Nat))).setCell ⟨wr.heap.size,3,none⟩ (.int .u8 (T 3:Nat))) w.heap.size 259 256 Gf.sub):=(((R0.out.other (NE _ (by omega)) _).other (NE _ (by omega)) _).other (NE _ (by omega)) _).other (NE _ (by omega)) _
       have R1':Hid (Row8 ((((w1.setCell ⟨wr.heap.size,0,none⟩ (.int .u8 (T 0:Nat))).setCell ⟨wr.heap.size,1,none⟩ (.int .u8 (T 1:Nat))).setCell ⟨wr.heap.size,2,none⟩ (.int .u8 (T 2:Nat))).setCell ⟨wr.heap.size,3,none⟩ (.int .u8 (T 3:Nat))) (w.heap.size + 1) 258 240 (fun _ => 0)):=(((R1.out.other (NE _ (by omega)) _).other (NE _ (by omega)) _).other (NE _ (by omega)) _).other (NE _ (by omega)) _
       have R2':Hid (Row8 ((((w1.setCell ⟨wr.heap.size,0,none⟩ (.int .u8 (T 0:Nat))).setCell ⟨wr.heap.size,1,none⟩ (.int .u8 (T 1:Nat))).setCell ⟨wr.heap.size,2,none⟩ (.int .u8 (T 2:Nat))).setCell ⟨wr.heap.size,3,none⟩ (.int .u8 (T 3:Nat))) (w.heap.size + 1 + 1) 282 240 f):=(((R2.out.other (NE _ (by omega)) _).other (NE _ (by omega)) _).other (NE _ (by omega)) _).other (NE _ (by omega)) _
       have RL':Hid (((((w1.setCell ⟨wr.heap.size,0,none⟩ (.int .u8 (T 0:Nat))).setCell ⟨wr.heap.size,1,none⟩ (.int .u8 (T 1:Nat))).setCell ⟨wr.heap.size,2,none⟩ (.int .u8 (T 2:Nat))).setCell ⟨wr.heap.size,3,none⟩ (.int .u8 (T 3:Nat))).rowIs wr.heap.size 281 4 (fun r => .int .u8 (T r:Nat))):=((((RL.out.set 0 _).set 1 _).set 2 _).set 3 _).congr (fun r hr => by
        rcases (show r = 0∨r = 1∨r = 2∨r = 3 by omega) with rfl | rfl | rfl | rfl <;> simp)
       have B1':Hid (Below w.heap.size w ((((w1.setCell ⟨wr.heap.size,0,none⟩ (.int .u8 (T 0:Nat))).setCell ⟨wr.heap.size,1,none⟩ (.int .u8 (T 1:Nat))).setCell ⟨wr.heap.size,2,none⟩ (.int .u8 (T 2:Nat))).setCell ⟨wr.heap.size,3,none⟩ (.int .u8 (T 3:Nat)))):=(((B1.out.setCell (by show w.heap.size≤wr.heap.size; omega) _).setCell (by show w.heap.size≤wr.heap.size; omega) _).setCell (by show w.heap.size≤wr.heap.size; omega) _).setCell (by show w.heap.size≤wr.heap.size; omega) _
       clear R0 R1 R2 RL B1 v0 v1 v2 v3 k0 k1 k2 k3 q0 q1 q2 q3 NE em em' t1 t2
       generalize ((((w1.setCell ⟨wr.heap.size,0,none⟩ (.int .u8 (T 0:Nat))).setCell ⟨wr.heap.size,1,none⟩ (.int .u8 (T 1:Nat))).setCell ⟨wr.heap.size,2,none⟩ (.int .u8 (T 2:Nat))).setCell ⟨wr.heap.size,3,none⟩ (.int .u8 (T 3:Nat))) = wq at *
       generalize wr.heap.size = L at *
       have R0:=R0'
       have R1:=R1'
       have R2:=R2'
       have RL:=RL'
       have B1:=B1'
       clear R0' R1' R2' RL' B1'
       go_loopw [11,74] (fun _ i wy => ∃ r:Nat,r≤4∧i = .int .i64 r∧Row8 wy w.heap.size 259 256 Gf.sub∧Row8 wy (w.heap.size + 1) 258 240 (fun _ => 0)∧Row8 wy (w.heap.size + 1 + 1) 282 240 (fun j => if I * 4≤j∧j < I * 4 + r then f ((I - n) * 4 + (j - I * 4)) ^^^ T (j - I * 4) else f j)∧wy.rowIs L 281 4 (fun r => .int .u8 (T r:Nat))∧Below w.heap.size w wy) (fun _ i _ => 4 - (intOf i).toNat)
       case atStart => exact ⟨0,by omega,rfl,R0.out,R1.out,R2.out.congr (fun j hj => by rw [if_neg (by omega)]),RL.out,B1.out⟩
       case round =>
        clear R0 R1 R2 RL B1
        obtain ⟨r,hr,rfl,h0,h1,h2,hl,hb⟩:=hrel
        have H0:Hid (Row8 wr w.heap.size 259 256 Gf.sub):=h0
        have H1:Hid (Row8 wr (w.heap.size + 1) 258 240 (fun _ => 0)):=h1
        have H2:Hid (Row8 wr (w.heap.size + 1 + 1) 282 240 (fun j => if I * 4≤j∧j < I * 4 + r then f ((I - n) * 4 + (j - I * 4)) ^^^ T (j - I * 4) else f j)):=h2
        have HL:Hid (wr.rowIs L 281 4 (fun r => .int .u8 (T r:Nat))):=hl
        have HB:Hid (Below w.heap.size w wr):=hb
        by_cases hr4:r < 4
        ·have c1:=World.rowIs.cell h2 (i:=(I - n) * 4 + r) (by omega)
         simp only [] at c1
         rw [if_neg (by omega)] at c1
         have c2:=hl.cell hr4
         have c3:=World.rowIs.cell h2 (i:=I * 4 + r) (by omega)
         have f3:=World.rowIs.frozen h2 (I * 4 + r)
         have lt:=LT.out r hr4
         have lff:=LF.out ((I - n) * 4 + r)
         have ex:bits .xor .u8 (f ((I - n) * 4 + r):Int) (T r:Int) = ((f ((I - n) * 4 + r) ^^^ T r:Nat):Int):=u8_xor_nat _ _ lff lt
         have x1:(I:Int) - (n:Int) < 60:=by omega
         have x2:(I:Int) < 60:=by omega
         have x3:(r:Int) < 4:=by omega
         clear h0 h1 h2 hl hb
         go_wp2
         go_region
         go_wp2
         go_roundw
         case rel =>
          refine ⟨r + 1,by omega,by go_num,(H0.out.other (by show w.heap.size≠w.heap.size + 1 + 1; omega) _).drewN 1,(H1.out.other (by show w.heap.size + 1≠w.heap.size + 1 + 1; omega) _).drewN 1,?_,HL.out.setOther (by show L≠w.heap.size + 1 + 1; omega) _,below_drewN (HB.out.setCell (by show w.heap.size≤w.heap.size + 1 + 1; omega) _) 1⟩
          exact ((H2.out.set (I * 4 + r) (f ((I - n) * 4 + r) ^^^ T r)).congr (fun j hj => by
           by_cases e:j = I * 4 + r
           ·rw [if_pos e,if_pos (by omega),show j - I * 4 = r from by omega]
           ·rw [if_neg e]
            by_cases h1:I * 4≤j∧j < I * 4 + r
            ·rw [if_pos h1,if_pos (by omega)]
            ·rw [if_neg h1,if_neg (by omega)])).drewN 1
         case measure => simp [intOf]; omega
        ·have R2':Hid (Row8 wr (w.heap.size + 1 + 1) 282 240 (Gf.ws (strB s) n (I + 1 - n))):=h2.congr (fun j hj => by
          rw [F2.out j]
          by_cases h1:I * 4≤j∧j < I * 4 + 4
          ·rw [if_pos (by omega),if_pos h1,ET.out _ (by omega)]
          ·rw [if_neg (by omega),if_neg h1])
         have hr':¬ (r:Int) < 4:=by omega
         clear h0 h1 h2 hl hb H2 HL
         go_wp2
         go_roundw
         case rel => exact ⟨I + 1,by omega,by omega,by go_num,val_int (by rw [P3.out hA]),H0.out,H1.out,R2'.out,HB.out⟩
         case measure => simp [intOf]; omega
      ·have t3:((n:Int) == 8) = false∨((n:Int) == 8) = true∧((I:Int) % 8 == 4) = false:=by
        by_cases e8:n = 8
        ·refine .inr ⟨by rw [beq_iff_eq]; omega,?_⟩
         rw [beq_eq_false_iff_ne]; intro h; exact h8 ⟨e8,by omega⟩
        ·exact .inl (by rw [beq_eq_false_iff_ne]; omega)
       have R0:Hid (Row8 (wr.alloc (.cells #[.int .u8 (f ((I - 1) * 4):Nat),.int .u8 (f ((I - 1) * 4 + 1):Nat),.int .u8 (f ((I - 1) * 4 + 2):Nat),.int .u8 (f ((I - 1) * 4 + 3):Nat)] 281)) w.heap.size 259 256 Gf.sub):=H0.out.alloc _
       have R1:Hid (Row8 (wr.alloc (.cells #[.int .u8 (f ((I - 1) * 4):Nat),.int .u8 (f ((I - 1) * 4 + 1):Nat),.int .u8 (f ((I - 1) * 4 + 2):Nat),.int .u8 (f ((I - 1) * 4 + 3):Nat)] 281)) (w.heap.size + 1) 258 240 (fun _ => 0)):=H1.out.alloc _
       have R2:Hid (Row8 (wr.alloc (.cells #[.int .u8 (f ((I - 1) * 4):Nat),.int .u8 (f ((I - 1) * 4 + 1):Nat),.int .u8 (f ((I - 1) * 4 + 2):Nat),.int .u8 (f ((I - 1) * 4 + 3):Nat)] 281)) (w.heap.size + 1 + 1) 282 240 f):=H2.out.alloc _
       have B1:Hid (Below w.heap.size w (wr.alloc (.cells #[.int .u8 (f ((I - 1) * 4):Nat),.int .u8 (f ((I - 1) * 4 + 1):Nat),.int .u8 (f ((I - 1) * 4 + 2):Nat),.int .u8 (f ((I - 1) * 4 + 3):Nat)] 281))):=HB.out.alloc HB.out.size _
       generalize hT:(fun r => Gf.kt n (fun r => f ((I - 1) * 4 + r)) I r) = T
       have LT:Hid (∀ r,r < 4→T r < 256):=fun r hr => by rw [← hT]; exact Gf.kt_lt (fun _ _ => LF.out _) _ _ hr
       have ET:Hid (∀ r,r < 4→T r = Gf.kt n (fun r => f ((I - 1) * 4 + r)) I r):=fun r _ => by rw [← hT]
       have RL:Hid ((wr.alloc (.cells #[.int .u8 (f ((I - 1) * 4):Nat),.int .u8 (f ((I - 1) * 4 + 1):Nat),.int .u8 (f ((I - 1) * 4 + 2):Nat),.int .u8 (f ((I - 1) * 4 + 3):Nat)] 281)).rowIs wr.heap.size 281 4 (fun r => .int .u8 (T r:Nat))):=by
        have VT:∀ r,T r = f ((I - 1) * 4 + r):=fun r => by rw [← hT]; show Gf.kt n _ I r = _; rw [Gf.kt,if_neg hA,if_neg h8]
        exact (four_cells (w:=wr) (.int .u8 (f ((I - 1) * 4):Nat)) (.int .u8 (f ((I - 1) * 4 + 1):Nat)) (.int .u8 (f ((I - 1) * 4 + 2):Nat)) (.int .u8 (f ((I - 1) * 4 + 3):Nat)) (fun r => .int .u8 (f ((I - 1) * 4 + r):Nat)) rfl rfl rfl rfl 281).congr (fun r hr => by rw [VT r])
       clear hT H0 H1 H2 HB
       rcases t3 with t3 | ⟨t3,t4⟩
       all_goals
        go_wp2_with fail
        generalize (wr.alloc (.cells #[.int .u8 (f ((I - 1) * 4):Nat),.int .u8 (f ((I - 1) * 4 + 1):Nat),.int .u8 (f ((I - 1) * 4 + 2):Nat),.int .u8 (f ((I - 1) * 4 + 3):Nat)] 281)) = wq at *
        generalize wr.heap.size = L at *
        clear g0 g1 g2 g3 em em' t3
        try clear t4
        go_loopw [11,74] (fun _ i wy => ∃ r:Nat,r≤4∧i = .int .i64 r∧Row8 wy w.heap.size 259 256 Gf.sub∧Row8 wy (w.heap.size + 1) 258 240 (fun _ => 0)∧Row8 wy (w.heap.size + 1 + 1) 282 240 (fun j => if I * 4≤j∧j < I * 4 + r then f ((I - n) * 4 + (j - I * 4)) ^^^ T (j - I * 4) else f j)∧wy.rowIs L 281 4 (fun r => .int .u8 (T r:Nat))∧Below w.heap.size w wy) (fun _ i _ => 4 - (intOf i).toNat)
        case atStart => exact ⟨0,by omega,rfl,R0.out,R1.out,R2.out.congr (fun j hj => by rw [if_neg (by omega)]),RL.out,B1.out⟩
        case round =>
         clear R0 R1 R2 RL B1
         obtain ⟨r,hr,rfl,h0,h1,h2,hl,hb⟩:=hrel
         have H0:Hid (Row8 wr w.heap.size 259 256 Gf.sub):=h0
         have H1:Hid (Row8 wr (w.heap.size + 1) 258 240 (fun _ => 0)):=h1
         have H2:Hid (Row8 wr (w.heap.size + 1 + 1) 282 240 (fun j => if I * 4≤j∧j < I * 4 + r then f ((I - n) * 4 + (j - I * 4)) ^^^ T (j - I * 4) else f j)):=h2
         have HL:Hid (wr.rowIs L 281 4 (fun r => .int .u8 (T r:Nat))):=hl
         have HB:Hid (Below w.heap.size w wr):=hb
         by_cases hr4:r < 4
         ·have c1:=World.rowIs.cell h2 (i:=(I - n) * 4 + r) (by omega)
          simp only [] at c1
          rw [if_neg (by omega)] at c1
          have c2:=hl.cell hr4
          have c3:=World.rowIs.cell h2 (i:=I * 4 + r) (by omega)
          have f3:=World.rowIs.frozen h2 (I * 4 + r)
          have lt:=LT.out r hr4
          have lff:=LF.out ((I - n) * 4 + r)
          have ex:bits .xor .u8 (f ((I - n) * 4 + r):Int) (T r:Int) = ((f ((I - n) * 4 + r) ^^^ T r:Nat):Int):=u8_xor_nat _ _ lff lt
          have x1:(I:Int) - (n:Int) < 60:=by omega
          have x2:(I:Int) < 60:=by omega
          have x3:(r:Int) < 4:=by omega
          clear h0 h1 h2 hl hb
          go_wp2
          go_region
          go_wp2
          go_roundw
          case rel =>
           refine ⟨r + 1,by omega,by go_num,(H0.out.other (by show w.heap.size≠w.heap.size + 1 + 1; omega) _).drewN 1,(H1.out.other (by show w.heap.size + 1≠w.heap.size + 1 + 1; omega) _).drewN 1,?_,HL.out.setOther (by show L≠w.heap.size + 1 + 1; omega) _,below_drewN (HB.out.setCell (by show w.heap.size≤w.heap.size + 1 + 1; omega) _) 1⟩
           exact ((H2.out.set (I * 4 + r) (f ((I - n) * 4 + r) ^^^ T r)).congr (fun j hj => by
            by_cases e:j = I * 4 + r
            ·rw [if_pos e,if_pos (by omega),show j - I * 4 = r from by omega]
            ·rw [if_neg e]
             by_cases h1:I * 4≤j∧j < I * 4 + r
             ·rw [if_pos h1,if_pos (by omega)]
             ·rw [if_neg h1,if_neg (by omega)])).drewN 1
          case measure => simp [intOf]; omega
         ·have R2':Hid (Row8 wr (w.heap.size + 1 + 1) 282 240 (Gf.ws (strB s) n (I + 1 - n))):=h2.congr (fun j hj => by
           rw [F2.out j]
           by_cases h1:I * 4≤j∧j < I * 4 + 4
           ·rw [if_pos (by omega),if_pos h1,ET.out _ (by omega)]
           ·rw [if_neg (by omega),if_neg h1])
          have hr':¬ (r:Int) < 4:=by omega
          clear h0 h1 h2 hl hb H2 HL
          go_wp2
          go_roundw
          case rel => exact ⟨I + 1,by omega,by omega,by go_num,val_int (by rw [P3.out hA]),H0.out,H1.out,R2'.out,HB.out⟩
          case measure => simp [intOf]; omega
    ·have H2':Hid (Row8 wr (w.heap.size + 1 + 1) 282 240 (Gf.ws (strB s) n (3 * n + 28))):=by
      have e:I - n = 3 * n + 28:=by omega
      rw [← e]; exact h2
     clear h0 h1 h2 hb H2
     have hI':¬ (I:Int) < 4 * ((n:Int) + 7):=by omega
     generalize hg:Gf.ws (strB s) n (3 * n + 28) = g at *
     have HG:Hid (Gf.ws (strB s) n (3 * n + 28) = g):=hg
     clear hg
     generalize Gf.pows ((I - 1) / n) = pw at *
     go_wp2_with (refine wpList_load_mid rfl 282 (.tmp 5) rfl (w.heap.size + 1 + 1) 0 rfl (bv 240 g) _ H2'.out.range Tryz.underlying282 rfl (by rw [bv_length]; exact Tryz.sizeW) ?_)
     refine (statesOf_any g _).mono ?_
     rintro e w1 ⟨rfl,hB⟩
     have R1:Hid (Row8 w1 (w.heap.size + 1) 258 240 (fun _ => 0)):=H1.out.below hB
     have B1:Hid (Below w.heap.size w w1):=HB.out.trans (hB.mono HB.out.size)
     clear hB
     go_wp2_with (refine wpList_store_mid rfl 258 (.tmp 4) (.tmp 94) rfl (w.heap.size + 1) 0 (bA 240 g) rfl rfl (by rw [bA_size]; exact R1.out.there) (by rw [bA_size]; exact Tryz.sizeK) (bA_one _ _) ?_)
     rw [bA_toList]
     have Lo:(loadVar 258 ⟨w.heap.size + 1,0,none⟩).run Tryz.prog (w1.setCells (w.heap.size + 1) 0 (bv 240 g)) = .ok (.agg (bA 240 g)) (w1.setCells (w.heap.size + 1) 0 (bv 240 g)):=(R1.out.stored _).load Tryz.underlying258 rfl Tryz.sizeK
     have Bo:Below w.heap.size w (w1.setCells (w.heap.size + 1) 0 (bv 240 g)):=below_setCells (by omega) _ _ _ B1.out
     exact bodyPost_ret (v:=.agg (bA 240 g)) (results_cell_one (b:=w.heap.size + 1) (o:=0) Tryz.results218 _ _ _ rfl Lo) rfl ⟨by rw [HG.out],Bo⟩
end Go.Proofs.YtcpjeopnhgoonaaGreatDoor
