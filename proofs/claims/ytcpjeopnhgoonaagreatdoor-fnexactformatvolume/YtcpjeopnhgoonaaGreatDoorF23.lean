/-
  Texts of the proof, joined.
-/
import Derived.Test.YtcpjeopnhgoonaaGreatDoorF07
import Derived.Test.YtcpjeopnhgoonaaGreatDoorF12
import Derived.Test.YtcpjeopnhgoonaaGreatDoorChH
namespace Go.Proofs.YtcpjeopnhgoonaaGreatDoor
open Go.ChangeShapes Go.WideShapes Go.ChangeAt Go.RowKit
set_option linter.unusedVariables false
theorem Tryz.info32:(Tryz.prog.info? 177).map (fun i => (i.zero,i.size,i.bytes)) = some (some (.int .u32 0),1,4):=by kernel_rfl
theorem mkWords (n:Nat) (hn:n≤1000000) (w:World):(Instr.makeSlice 178 (.int .i64 (n:Int)) (.int .i64 (n:Int))).run Tryz.prog w = .ok (.slice (some ⟨w.heap.size,0,none⟩) n n) (w.alloc (.cells (madeCells #[.int .u32 0] n) 177)) :=
 run_make_row' 178 177 (.int .u32 0) 4 Tryz.underlying178 Tryz.info32 rfl .i64 .i64 n (by omega) (by omega) w
theorem far_same {w:World} {b i j k:Nat} {x y:Option Value} {v:Value} (h:w.cell? ⟨b,i,none⟩ = x∧w.cell? ⟨b,j,none⟩ = y) (h1:i≠k) (h2:j≠k):(w.setCell ⟨b,k,none⟩ v).cell? ⟨b,i,none⟩ = x∧(w.setCell ⟨b,k,none⟩ v).cell? ⟨b,j,none⟩ = y:=by
 rw [World.cell?_setCell_other _ _ _ _ (by intro e; cases e; exact h1 rfl),World.cell?_setCell_other _ _ _ _ (by intro e; cases e; exact h2 rfl)]
 exact h
def CellsW (w:World) (b n:Nat) (f:Nat→Nat):Prop:=∀ j,j < n→w.cell? ⟨b,j,none⟩ = some (.int .u32 ((f j:Nat):Int))
theorem CellsW.onlyB {w w':World} {b c n:Nat} {f:Nat→Nat} (h:CellsW w b n f) (ho:OnlyB c w w') (hne:b≠c):CellsW w' b n f:=fun j hj => by rw [World.cell?_of_block (w:=w) (ho.block b (strBlock (h j hj)) hne)]; exact h j hj
theorem wv_news {w:World} {b n:Nat} {t:TypeId} {f:Nat→Nat} (h:RowW w b t n f):∀ j u,(wv n f)[j]? = some u→w.cell? ((⟨b,0,none⟩:Addr).add j) = some u:=fun j u hu => by
 have hj:j < n:=by have:=(List.getElem?_eq_some_iff.1 hu).1; rwa [wv_length] at this
 rw [wv_at hj] at hu
 cases hu
 rw [Addr.add_lit,Nat.zero_add]
 exact World.rowIs.cell h hj
theorem wv_one (n:Nat) (f:Nat→Nat):∀ u ∈ wv n f,u.oneCell' = true:=fun u hu => by
 obtain ⟨i,_,rfl⟩:=List.mem_map.1 hu
 rfl
theorem cellsW_of_own {w:World} {base:Nat} {x:Value} {n:Nat} {f:Nat→Nat} (h:w.ownsRow base 177 1 x n (wv n f)) (hv:x≠.slice none 0 0) :
  ∃ g cap,x = .slice (some ⟨g,0,none⟩) n cap∧base≤g∧CellsW w g n f:=by
 obtain ⟨hl,⟨rfl,_⟩ | ⟨g,cap,cur,rfl,hb,hh,hn',hm,hs,ht⟩⟩:=h
 ·exact absurd rfl hv
 ·refine ⟨g,cap,rfl,hb,fun j hj => ?_⟩
  have h1:(cur.toList.take (n * 1))[j]? = some (.int .u32 ((f j:Nat):Int)):=by rw [ht]; exact wv_at hj
  rw [List.getElem?_take,if_pos (by omega),Array.getElem?_toList] at h1
  have:j < cur.size:=(Array.getElem?_eq_some_iff.1 h1).1
  simp [World.cell?,hh,h1]
theorem chS_int (e f g:Nat):bits .xor .u32 (bits .and .u32 (e:Int) (f:Int)) (bits .and .u32 ((Sha.nt e:Nat):Int) (g:Int)) = ((Sha.xr (Sha.an e f) (Sha.an (Sha.nt e) g):Nat):Int):=by rw [u32_and_nat,u32_and_nat,u32_xor_nat]
theorem majS_int (a b c:Nat):bits .xor .u32 (bits .xor .u32 (bits .and .u32 (a:Int) (b:Int)) (bits .and .u32 (a:Int) (c:Int))) (bits .and .u32 (b:Int) (c:Int)) = ((Sha.xr (Sha.xr (Sha.an a b) (Sha.an a c)) (Sha.an b c):Nat):Int):=by rw [u32_and_nat,u32_and_nat,u32_and_nat,u32_xor_nat,u32_xor_nat]
set_option maxRecDepth 100000 in
set_option maxHeartbeats 8000000 in
theorem l03Block_any (hb kb ab o ca:Nat) (v f:Nat→Nat) (hf:∀ i,f i < 256) (w:World) (hh:RowW w hb 177 8 v) (hk:RowW w kb 177 64 Sha.kc) (hc:Code8 w (some ⟨ab,o,none⟩) 64 f) :
  Calls Tryz.prog 124 #[.slice (some ⟨hb,0,none⟩) 8 8,.slice (some ⟨ab,o,none⟩) 64 ca,.slice (some ⟨kb,0,none⟩) 64 64] w fun e w' => e = .returned (.tuple #[])∧RowW w' hb 177 8 (Sha.block v f)∧OnlyB hb w w':=by
 have m64:∀ w:World,(Instr.makeSlice 178 (.int .i64 64) (.int .i64 64)).run Tryz.prog w = .ok (.slice (some ⟨w.heap.size,0,none⟩) 64 64) (w.alloc (.cells (madeCells #[.int .u32 0] 64) 177)):=mkWords 64 (by omega)
 have TU:Hid (∀ (x n:Nat) (w:World),Turns n→Calls Tryz.prog 168 #[.int .u32 (x:Int),.int .u64 (n:Int)] w fun e w' => e = .returned (.int .u32 ((Sha.rt x n:Nat):Int))∧w = w'):=fun x n w hn => l03Turn_any x n hn w
 have HH:Hid (RowW w hb 177 8 v):=hh
 have HK:Hid (RowW w kb 177 64 Sha.kc):=hk
 have HC:Hid (Code8 w (some ⟨ab,o,none⟩) 64 f):=hc
 have HF:Hid (∀ i,f i < 256):=hf
 have hbl:ab < w.heap.size:=hc.lt _ (by omega) rfl
 have K1:Hid (RowW (w.alloc (.cells (madeCells #[.int .u32 0] 64) 177)) w.heap.size 177 64 (fun _ => 0)):=(World.rowIs_made w (.int .u32 0) 64 177).congr (fun j hj => rfl)
 have K2:Hid (Below w.heap.size w (w.alloc (.cells (madeCells #[.int .u32 0] 64) 177))):=(Below.refl _ _).alloc (Nat.le_refl _) _
 clear hh hk hc hf
 go_enter Tryz.func124,Tryz.ntmps124
 go_wp2
 clear m64
 generalize w.alloc (.cells (madeCells #[.int .u32 0] 64) 177) = wz at *
 go_loopw [7] (fun i wr => ∃ k:Nat,k≤16∧i = .int .i64 k∧RowW wr w.heap.size 177 64 (fun j => if j < k then Sha.ws f j else 0)∧Below w.heap.size w wr) (fun i _ => 16 - (intOf i).toNat)
 case atStart => exact ⟨0,by omega,rfl,K1.out.congr (fun j hj => by simp),K2.out⟩
 case round =>
  clear K1 K2
  obtain ⟨k,hk,rfl,hr,hbw⟩:=hrel
  have HR:Hid (RowW wr w.heap.size 177 64 (fun j => if j < k then Sha.ws f j else 0)):=hr
  have HB:Hid (Below w.heap.size w wr):=hbw
  by_cases hlt:k < 16
  ·have hlt':(k:Int) < 16:=by omega
   have hlt64:(k:Int) < 64:=by omega
   obtain ⟨q,hq⟩:∃ q,q = 4 * k:=⟨_,rfl⟩
   have e4:(4:Int) * (k:Int) = (q:Int):=by omega
   have b0:(q:Int) < 64:=by omega
   have b1:(q:Int) + 1 < 64:=by omega
   have b2:(q:Int) + 2 < 64:=by omega
   have b3:(q:Int) + 3 < 64:=by omega
   have p0:(0:Int)≤(q:Int):=by omega
   have p1:(0:Int)≤(q:Int) + 1:=by omega
   have p2:(0:Int)≤(q:Int) + 2:=by omega
   have p3:(0:Int)≤(q:Int) + 3:=by omega
   have t1:((q:Int) + 1).toNat = q + 1:=by omega
   have t2:((q:Int) + 2).toNat = q + 2:=by omega
   have t3:((q:Int) + 3).toNat = q + 3:=by omega
   have v0:IntKind.i64.wrap (q:Int) = q:=IntWalk.i64_in _ ⟨by omega,by omega⟩
   have v1:IntKind.i64.wrap ((q:Int) + 1) = q + 1:=IntWalk.i64_in _ ⟨by omega,by omega⟩
   have v2:IntKind.i64.wrap ((q:Int) + 2) = q + 2:=IntWalk.i64_in _ ⟨by omega,by omega⟩
   have v3:IntKind.i64.wrap ((q:Int) + 3) = q + 3:=IntWalk.i64_in _ ⟨by omega,by omega⟩
   have hcw:Code8 wr (some ⟨ab,o,none⟩) 64 f:=HC.out.below hbw
   have c0:=hcw.at (i:=q) (by omega)
   have c1:=hcw.at (i:=q + 1) (by omega)
   have c2:=hcw.at (i:=q + 2) (by omega)
   have c3:=hcw.at (i:=q + 3) (by omega)
   have q0:IntKind.u32.wrap (f q:Int) = (f q:Int):=by show ((f q:Nat):Int) % 4294967296 = _; have:=HF.out q; omega
   have q1:IntKind.u32.wrap (f (q + 1):Int) = (f (q + 1):Int):=by show ((f (q + 1):Nat):Int) % 4294967296 = _; have:=HF.out (q + 1); omega
   have q2:IntKind.u32.wrap (f (q + 2):Int) = (f (q + 2):Int):=by show ((f (q + 2):Nat):Int) % 4294967296 = _; have:=HF.out (q + 2); omega
   have q3:IntKind.u32.wrap (f (q + 3):Int) = (f (q + 3):Int):=by show ((f (q + 3):Nat):Int) % 4294967296 = _; have:=HF.out (q + 3); omega
   have E:=word_int (f q) (f (q + 1)) (f (q + 2)) (f (q + 3))
   have HV:Hid (Sha.ws f k = Sha.orr (Sha.orr (Sha.orr (Sha.sl (f q) 24) (Sha.sl (f (q + 1)) 16)) (Sha.sl (f (q + 2)) 8)) (f (q + 3))):=by show _ = _; rw [hq,Sha.ws_in f hlt]; rfl
   generalize Sha.orr (Sha.orr (Sha.orr (Sha.sl (f q) 24) (Sha.sl (f (q + 1)) 16)) (Sha.sl (f (q + 2)) 8)) (f (q + 3)) = WV at *
   generalize f q = u0 at *
   generalize f (q + 1) = u1 at *
   generalize f (q + 2) = u2 at *
   generalize f (q + 3) = u3 at *
   have ck:wr.cell? ⟨w.heap.size,k,none⟩ = some (.int .u32 0):=by
    have:=World.rowIs.cell hr (i:=k) (by omega)
    simp only [Nat.lt_irrefl,if_false] at this
    exact this
   have fk:=World.rowIs.frozen hr k
   clear hr hbw hq hcw
   go_wp2_with fail
   go_region
   go_wp2
   go_roundw
   case rel =>
    refine ⟨k + 1,by omega,by go_num,?_,HB.out.drew.setCell (Nat.le_refl _) _⟩
    exact ((show RowW wr.drew _ _ _ _ from HR.out).set k WV).congr (fun j hj => by
     by_cases e:j = k
     ·subst e; rw [if_pos rfl,if_pos (by omega)]; exact HV.out.symm
     ·simp only [if_neg e]
      by_cases h1:j < k
      ·rw [if_pos h1,if_pos (by omega)]
      ·rw [if_neg h1,if_neg (by omega)])
   case measure => simp [intOf]; omega
  ·have HR':Hid (RowW wr w.heap.size 177 64 (fun j => if j < 16 then Sha.ws f j else 0)):=hr.congr (fun j hj => by rw [show k = 16 from by omega])
   have hlt':¬ (k:Int) < 16:=by omega
   clear hr hbw HR
   go_wp2
   clear hlt hlt' hk
   go_loopw [8,9,10] (fun i _ _ wr => ∃ k:Nat,16≤k∧k≤64∧i = .int .i64 k∧RowW wr w.heap.size 177 64 (fun j => if j < k then Sha.ws f j else 0)∧Below w.heap.size w wr) (fun i _ _ _ => 64 - (intOf i).toNat)
   case atStart => exact ⟨16,by omega,by omega,rfl,HR'.out,HB.out⟩
   case round =>
    clear HR' HB
    obtain ⟨k,hk16,hk,rfl,hr,hbw⟩:=hrel
    rename_i wr
    have HR:Hid (RowW wr w.heap.size 177 64 (fun j => if j < k then Sha.ws f j else 0)):=hr
    have HB:Hid (Below w.heap.size w wr):=hbw
    by_cases hlt:k < 64
    ·have hlt':(k:Int) < 64:=by omega
     obtain ⟨k15,h15⟩:∃ q,q = k - 15:=⟨_,rfl⟩
     obtain ⟨k2,h2⟩:∃ q,q = k - 2:=⟨_,rfl⟩
     obtain ⟨k16,h16⟩:∃ q,q = k - 16:=⟨_,rfl⟩
     obtain ⟨k7,h7⟩:∃ q,q = k - 7:=⟨_,rfl⟩
     have e15:(k:Int) - 15 = (k15:Int):=by omega
     have e2:(k:Int) - 2 = (k2:Int):=by omega
     have e16:(k:Int) - 16 = (k16:Int):=by omega
     have e7:(k:Int) - 7 = (k7:Int):=by omega
     have y15:IntKind.i64.wrap (k15:Int) = (k15:Int):=by rw [IntKind.wrap_i64]; omega
     have y2:IntKind.i64.wrap (k2:Int) = (k2:Int):=by rw [IntKind.wrap_i64]; omega
     have y16:IntKind.i64.wrap (k16:Int) = (k16:Int):=by rw [IntKind.wrap_i64]; omega
     have y7:IntKind.i64.wrap (k7:Int) = (k7:Int):=by rw [IntKind.wrap_i64]; omega
     have l15:(k15:Int) < 64:=by omega
     have l2:(k2:Int) < 64:=by omega
     have l16:(k16:Int) < 64:=by omega
     have l7:(k7:Int) < 64:=by omega
     have g16:k16≠k:=by omega
     have g7:k7≠k:=by omega
     have cell:∀ j,j < k→wr.cell? ⟨w.heap.size,j,none⟩ = some (.int .u32 ((Sha.ws f j:Nat):Int)):=fun j hj => by
      have:=World.rowIs.cell hr (i:=j) (by omega)
      simp only [if_pos hj] at this
      exact this
     have c15:=cell k15 (by omega)
     have c2:=cell k2 (by omega)
     have c16:=cell k16 (by omega)
     have c7:=cell k7 (by omega)
     have ck:wr.cell? ⟨w.heap.size,k,none⟩ = some (.int .u32 0):=by
      have:=World.rowIs.cell hr (i:=k) (by omega)
      simp only [Nat.lt_irrefl,if_false] at this
      exact this
     have fk:=World.rowIs.frozen hr k
     have HV:Hid (Sha.ws f k = Sha.ad (Sha.ad (Sha.ad (Sha.ws f k16) (Sha.s0 (Sha.ws f k15))) (Sha.ws f k7)) (Sha.s1 (Sha.ws f k2))):=by show _ = _; rw [Sha.ws_out f (by omega),h15,h2,h16,h7]
     generalize Sha.ws f k15 = v15 at *
     generalize Sha.ws f k2 = v2 at *
     generalize Sha.ws f k16 = v16 at *
     generalize Sha.ws f k7 = v7 at *
     have E0:=s0_int v15
     have E1:=s1_int v2
     have T7:Hid (∀ w:World,Calls Tryz.prog 168 #[.int .u32 (v15:Int),.int .u64 7] w fun e w' => e = .returned (.int .u32 ((Sha.rt v15 7:Nat):Int))∧w = w'):=fun w => TU.out v15 7 w (by unfold Turns; omega)
     have T18:Hid (∀ w:World,Calls Tryz.prog 168 #[.int .u32 (v15:Int),.int .u64 18] w fun e w' => e = .returned (.int .u32 ((Sha.rt v15 18:Nat):Int))∧w = w'):=fun w => TU.out v15 18 w (by unfold Turns; omega)
     have T17:Hid (∀ w:World,Calls Tryz.prog 168 #[.int .u32 (v2:Int),.int .u64 17] w fun e w' => e = .returned (.int .u32 ((Sha.rt v2 17:Nat):Int))∧w = w'):=fun w => TU.out v2 17 w (by unfold Turns; omega)
     have T19:Hid (∀ w:World,Calls Tryz.prog 168 #[.int .u32 (v2:Int),.int .u64 19] w fun e w' => e = .returned (.int .u32 ((Sha.rt v2 19:Nat):Int))∧w = w'):=fun w => TU.out v2 19 w (by unfold Turns; omega)
     generalize Sha.rt v15 7 = r7 at *
     generalize Sha.rt v15 18 = r18 at *
     generalize Sha.rt v2 17 = r17 at *
     generalize Sha.rt v2 19 = r19 at *
     generalize Sha.s0 v15 = S0 at *
     generalize Sha.s1 v2 = S1 at *
     have A1:=u32_add_nat v16 S0
     have A2:=u32_add_nat (Sha.ad v16 S0) v7
     have A3:=u32_add_nat (Sha.ad (Sha.ad v16 S0) v7) S1
     generalize Sha.ad (Sha.ad (Sha.ad v16 S0) v7) S1 = N3 at *
     generalize Sha.ad (Sha.ad v16 S0) v7 = N2 at *
     generalize Sha.ad v16 S0 = N1 at *
     clear hr hbw h15 h2 h16 h7 cell
     go_wp2_with fail
     refine wp_region_noPanic ?_
     refine wp_region_held_drew (S:=fun w' => w'.cell? ⟨w.heap.size,k16,none⟩ = some (.int .u32 (v16:Int))∧w'.cell? ⟨w.heap.size,k7,none⟩ = some (.int .u32 (v7:Int))) (by kernel_rfl) ⟨c16,c7⟩ (fun _ => ?_)
     have HS:Hid (wr.drew.cell? ⟨w.heap.size,k16,none⟩ = some (.int .u32 (v16:Int))∧wr.drew.cell? ⟨w.heap.size,k7,none⟩ = some (.int .u32 (v7:Int))):=⟨c16,c7⟩
     refine wpAnyH_take (i:=0) (v:=.slice (some ⟨w.heap.size,0,none⟩) 64 64) rfl (by kernel_rfl) (by kernel_rfl) (by kernel_rfl) (fun _ _ _ h => h) (Or.inl ⟨by rfl,?_⟩) HS.out ?_
     ·intro wq hSq; obtain ⟨d16,d7⟩:=hSq; go_simp
     refine ch222 ?_
     refine wpAnyH_take (i:=1) (v:=.int .i64 (k:Int)) rfl (by kernel_rfl) (by kernel_rfl) (by kernel_rfl) (fun _ _ _ h => h) (Or.inl ⟨by rfl,?_⟩) HS.out ?_
     ·intro wq hSq; obtain ⟨d16,d7⟩:=hSq; go_simp
     refine ch222 ?_
     refine wpAnyH_take (i:=2) (v:=.slice (some ⟨w.heap.size,0,none⟩) 64 64) rfl (by kernel_rfl) (by kernel_rfl) (by kernel_rfl) (fun _ _ _ h => h) (Or.inl ⟨by rfl,?_⟩) HS.out ?_
     ·intro wq hSq; obtain ⟨d16,d7⟩:=hSq; go_simp
     refine ch222 ?_
     refine wpAnyH_take (i:=3) (v:=.int .i64 (k:Int)) rfl (by kernel_rfl) (by kernel_rfl) (by kernel_rfl) (fun _ _ _ h => h) (Or.inl ⟨by rfl,?_⟩) HS.out ?_
     ·intro wq hSq; obtain ⟨d16,d7⟩:=hSq; go_simp
     refine ch222 ?_
     refine wpAnyH_take (i:=4) (v:=.int .i64 (k16:Int)) rfl (by kernel_rfl) (by kernel_rfl) (by kernel_rfl) (fun _ _ _ h => h) (Or.inl ⟨by rfl,?_⟩) HS.out ?_
     ·intro wq hSq; obtain ⟨d16,d7⟩:=hSq; go_simp
     refine ch222 ?_
     refine wpAnyH_take (i:=5) (v:=.pointer (some ⟨w.heap.size,k16,none⟩)) rfl (by kernel_rfl) (by kernel_rfl) (by kernel_rfl) (fun _ _ _ h => h) (Or.inl ⟨by rfl,?_⟩) HS.out ?_
     ·intro wq hSq; obtain ⟨d16,d7⟩:=hSq; go_simp
     refine ch222 ?_
     refine wpAnyH_take (i:=6) (v:=.int .u32 (v16:Int)) rfl (by kernel_rfl) (by kernel_rfl) (by kernel_rfl) (fun _ _ _ h => h) (Or.inl ⟨by rfl,?_⟩) HS.out ?_
     ·intro wq hSq; obtain ⟨d16,d7⟩:=hSq; go_simp
     refine ch222 ?_
     refine wpAnyH_take (i:=7) (v:=.int .u32 (v15:Int)) rfl (by kernel_rfl) (by kernel_rfl) (by kernel_rfl) (fun _ _ _ h => h) (Or.inl ⟨by rfl,?_⟩) HS.out ?_
     ·intro wq hSq; obtain ⟨d16,d7⟩:=hSq; go_simp
     refine ch222 ?_
     refine wpAnyH_take (i:=9) (v:=.int .u32 (v15:Int)) rfl (by kernel_rfl) (by kernel_rfl) (by kernel_rfl) (fun _ _ _ h => h) (Or.inl ⟨by rfl,?_⟩) HS.out ?_
     ·intro wq hSq; obtain ⟨d16,d7⟩:=hSq; go_simp
     refine ch222 ?_
     refine wpAnyH_take (i:=12) (v:=.int .u32 (v15:Int)) rfl (by kernel_rfl) (by kernel_rfl) (by kernel_rfl) (fun _ _ _ h => h) (Or.inl ⟨by rfl,?_⟩) HS.out ?_
     ·intro wq hSq; obtain ⟨d16,d7⟩:=hSq; go_simp
     refine ch222 ?_
     refine wpAnyH_take (i:=13) (v:=.int .u32 ((v15:Int) / 8)) rfl (by kernel_rfl) (by kernel_rfl) (by kernel_rfl) (fun _ _ _ h => h) (Or.inl ⟨by rfl,?_⟩) HS.out ?_
     ·intro wq hSq; obtain ⟨d16,d7⟩:=hSq; go_simp
     refine ch222 ?_
     refine wpAnyH_take (i:=16) (v:=.slice (some ⟨w.heap.size,0,none⟩) 64 64) rfl (by kernel_rfl) (by kernel_rfl) (by kernel_rfl) (fun _ _ _ h => h) (Or.inl ⟨by rfl,?_⟩) HS.out ?_
     ·intro wq hSq; obtain ⟨d16,d7⟩:=hSq; go_simp
     refine ch222 ?_
     refine wpAnyH_take (i:=17) (v:=.int .i64 (k:Int)) rfl (by kernel_rfl) (by kernel_rfl) (by kernel_rfl) (fun _ _ _ h => h) (Or.inl ⟨by rfl,?_⟩) HS.out ?_
     ·intro wq hSq; obtain ⟨d16,d7⟩:=hSq; go_simp
     refine ch222 ?_
     refine wpAnyH_take (i:=18) (v:=.int .i64 (k7:Int)) rfl (by kernel_rfl) (by kernel_rfl) (by kernel_rfl) (fun _ _ _ h => h) (Or.inl ⟨by rfl,?_⟩) HS.out ?_
     ·intro wq hSq; obtain ⟨d16,d7⟩:=hSq; go_simp
     refine ch222 ?_
     refine wpAnyH_take (i:=19) (v:=.pointer (some ⟨w.heap.size,k7,none⟩)) rfl (by kernel_rfl) (by kernel_rfl) (by kernel_rfl) (fun _ _ _ h => h) (Or.inl ⟨by rfl,?_⟩) HS.out ?_
     ·intro wq hSq; obtain ⟨d16,d7⟩:=hSq; go_simp
     refine ch222 ?_
     refine wpAnyH_take (i:=20) (v:=.int .u32 (v7:Int)) rfl (by kernel_rfl) (by kernel_rfl) (by kernel_rfl) (fun _ _ _ h => h) (Or.inl ⟨by rfl,?_⟩) HS.out ?_
     ·intro wq hSq; obtain ⟨d16,d7⟩:=hSq; go_simp
     refine ch222 ?_
     refine wpAnyH_take (i:=22) (v:=.int .u32 (v2:Int)) rfl (by kernel_rfl) (by kernel_rfl) (by kernel_rfl) (fun _ _ _ h => h) (Or.inl ⟨by rfl,?_⟩) HS.out ?_
     ·intro wq hSq; obtain ⟨d16,d7⟩:=hSq; go_simp
     refine ch222 ?_
     refine wpAnyH_take (i:=24) (v:=.int .u32 (v2:Int)) rfl (by kernel_rfl) (by kernel_rfl) (by kernel_rfl) (fun _ _ _ h => h) (Or.inl ⟨by rfl,?_⟩) HS.out ?_
     ·intro wq hSq; obtain ⟨d16,d7⟩:=hSq; go_simp
     refine ch222 ?_
     refine wpAnyH_take (i:=27) (v:=.int .u32 (v2:Int)) rfl (by kernel_rfl) (by kernel_rfl) (by kernel_rfl) (fun _ _ _ h => h) (Or.inl ⟨by rfl,?_⟩) HS.out ?_
     ·intro wq hSq; obtain ⟨d16,d7⟩:=hSq; go_simp
     refine ch222 ?_
     refine wpAnyH_take (i:=28) (v:=.int .u32 ((v2:Int) / 1024)) rfl (by kernel_rfl) (by kernel_rfl) (by kernel_rfl) (fun _ _ _ h => h) (Or.inl ⟨by rfl,?_⟩) HS.out ?_
     ·intro wq hSq; obtain ⟨d16,d7⟩:=hSq; go_simp
     refine ch222 ?_
     refine wpAnyH_ready (rs:=[8]) (by kernel_rfl) (by simp) ?_
     refine AllReadyH.cons rfl (fun KK hK => ?_) AllReadyH.nil
     go_simp
     refine (T7.out _).mono ?_
     rintro e w' ⟨rfl,rfl⟩
     refine hK.out _ _ HS.out (fun _ => ?_)
     clear hK KK
     refine ch222 ?_
     refine wpAnyH_ready (rs:=[10]) (by kernel_rfl) (by simp) ?_
     refine AllReadyH.cons rfl (fun KK hK => ?_) AllReadyH.nil
     go_simp
     refine (T18.out _).mono ?_
     rintro e w' ⟨rfl,rfl⟩
     refine hK.out _ _ HS.out (fun _ => ?_)
     clear hK KK
     refine ch222 ?_
     refine wpAnyH_take (i:=11) (v:=.int .u32 (bits .xor .u32 (r7:Int) (r18:Int))) rfl (by kernel_rfl) (by kernel_rfl) (by kernel_rfl) (fun _ _ _ h => h) (Or.inl ⟨by rfl,?_⟩) HS.out ?_
     ·intro wq hSq; obtain ⟨d16,d7⟩:=hSq; go_simp
     refine ch222 ?_
     refine wpAnyH_take (i:=14) (v:=.int .u32 (S0:Int)) rfl (by kernel_rfl) (by kernel_rfl) (by kernel_rfl) (fun _ _ _ h => h) (Or.inl ⟨by rfl,?_⟩) HS.out ?_
     ·intro wq hSq; obtain ⟨d16,d7⟩:=hSq; go_simp
     refine ch222 ?_
     refine wpAnyH_take (i:=15) (v:=.int .u32 (N1:Int)) rfl (by kernel_rfl) (by kernel_rfl) (by kernel_rfl) (fun _ _ _ h => h) (Or.inl ⟨by rfl,?_⟩) HS.out ?_
     ·intro wq hSq; obtain ⟨d16,d7⟩:=hSq; go_simp
     refine ch222 ?_
     refine wpAnyH_take (i:=21) (v:=.int .u32 (N2:Int)) rfl (by kernel_rfl) (by kernel_rfl) (by kernel_rfl) (fun _ _ _ h => h) (Or.inl ⟨by rfl,?_⟩) HS.out ?_
     ·intro wq hSq; obtain ⟨d16,d7⟩:=hSq; go_simp
     refine ch222 ?_
     refine wpAnyH_ready (rs:=[23]) (by kernel_rfl) (by simp) ?_
     refine AllReadyH.cons rfl (fun KK hK => ?_) AllReadyH.nil
     go_simp
     refine (T17.out _).mono ?_
     rintro e w' ⟨rfl,rfl⟩
     refine hK.out _ _ HS.out (fun _ => ?_)
     clear hK KK
     refine ch222 ?_
     refine wpAnyH_ready (rs:=[25]) (by kernel_rfl) (by simp) ?_
     refine AllReadyH.cons rfl (fun KK hK => ?_) AllReadyH.nil
     go_simp
     refine (T19.out _).mono ?_
     rintro e w' ⟨rfl,rfl⟩
     refine hK.out _ _ HS.out (fun _ => ?_)
     clear hK KK
     refine ch222 ?_
     refine wpAnyH_take (i:=26) (v:=.int .u32 (bits .xor .u32 (r17:Int) (r19:Int))) rfl (by kernel_rfl) (by kernel_rfl) (by kernel_rfl) (fun _ _ _ h => h) (Or.inl ⟨by rfl,?_⟩) HS.out ?_
     ·intro wq hSq; obtain ⟨d16,d7⟩:=hSq; go_simp
     refine ch222 ?_
     refine wpAnyH_take (i:=29) (v:=.int .u32 (S1:Int)) rfl (by kernel_rfl) (by kernel_rfl) (by kernel_rfl) (fun _ _ _ h => h) (Or.inl ⟨by rfl,?_⟩) HS.out ?_
     ·intro wq hSq; obtain ⟨d16,d7⟩:=hSq; go_simp
     refine ch222 ?_
     refine wpAnyH_take (i:=30) (v:=.int .u32 (N3:Int)) rfl (by kernel_rfl) (by kernel_rfl) (by kernel_rfl) (fun _ _ _ h => h) (Or.inl ⟨by rfl,?_⟩) HS.out ?_
     ·intro wq hSq; obtain ⟨d16,d7⟩:=hSq; go_simp
     refine ch222 ?_
     refine wpAnyH_take (i:=31) (v:=.pointer (some ⟨w.heap.size,k,none⟩)) rfl (by kernel_rfl) (by kernel_rfl) (by kernel_rfl) (fun _ _ _ h => h) (Or.inl ⟨by rfl,?_⟩) HS.out ?_
     ·intro wq hSq; obtain ⟨d16,d7⟩:=hSq; go_simp
     refine ch222 ?_
     refine wpAnyH_ready (rs:=[32]) (by kernel_rfl) (by simp) ?_
     refine AllReadyH.cons rfl (fun KK hK => ?_) AllReadyH.nil
     go_simp
     refine hK.out _ _ (far_same HS.out g16 g7) (fun _ => ?_)
     clear hK KK
     refine wpAnyH_done (by kernel_rfl) ?_ _
     refine NoPanic.normal ?_
     go_wp2
     go_roundw
     case rel =>
      refine ⟨k + 1,by omega,by omega,by go_num,?_,HB.out.drew.setCell (Nat.le_refl _) _⟩
      exact ((show RowW wr.drew _ _ _ _ from HR.out).set k N3).congr (fun j hj => by
       by_cases e:j = k
       ·subst e; rw [if_pos rfl,if_pos (by omega)]; exact HV.out.symm
       ·simp only [if_neg e]
        by_cases h1:j < k
        ·rw [if_pos h1,if_pos (by omega)]
        ·rw [if_neg h1,if_neg (by omega)])
     case measure => simp [intOf]; omega
    ·have HR':Hid (RowW wr w.heap.size 177 64 (Sha.ws f)):=hr.congr (fun j hj => by rw [if_pos (by omega)])
     have hlt':¬ (k:Int) < 64:=by omega
     obtain ⟨i3,hi3⟩:=info_parts Tryz.info32
     have HI:Hid (Tryz.prog.info? 177 = some i3∧i3.zero = some (.int .u32 0)∧i3.size = 1∧i3.bytes = 4):=hi3
     have HHr:Hid (RowW wr hb 177 8 v):=HH.out.below hbw
     have hsz:=hbw.size
     clear hr hbw HR hi3
     go_wp2_with (at_builtin; refine wpList_append_own _ rfl _ _ 178 rfl wr.heap.size 177 i3 (.int .u32 0) 1 4 Tryz.underlying178 HI.out.1 HI.out.2.1 HI.out.2.2.1 HI.out.2.2.2 rfl (by decide) _ _ _ rfl (World.ownsRow_made wr #[] 0 (Nat.le_refl _) (Nat.zero_le _) (by simp)) ⟨hb,0,none⟩ 8 8 (wv 8 v) rfl (by rw [wv_length]) ?qc (wv_one 8 v) (by unfold maxLen; omega) (by omega) (by simp) ?_)
     case qc =>
      intro j x hj
      refine Lib.cell?_alloc_some _ ?_
      have:=wv_news HHr.out j x hj
      rwa [Addr.add_lit,Nat.zero_add] at this
     intro v' w1 hown hgrow hnil
     have HB1:Hid (Below w.heap.size w w1):=HB.out.trans ((((Below.refl _ wr).alloc (Nat.le_refl _) _).grown hgrow (by simp) (by intro k hk; simp [Value.ownBlock] at hk; omega)).mono hsz)
     have BG:Below wr.heap.size wr w1:=((Below.refl _ wr).alloc (Nat.le_refl _) _).grown hgrow (by simp) (by intro k hk; simp [Value.ownBlock] at hk; omega)
     have HW1:Hid (RowW w1 w.heap.size 177 64 (Sha.ws f)):=HR'.out.below BG
     obtain ⟨g,c,rfl,hg,hcs⟩:=cellsW_of_own (by simpa using hown) hnil
     have HV1:Hid (CellsW w1 g 8 v):=hcs
     have hgw:w.heap.size≤g:=by omega
     clear hown hgrow hnil HB HR' HHr BG hcs hlt hlt' hk hk16
     go_wp2_with fail
     go_loopw [11,12,13,14,15,16] (fun s i _ _ _ _ wr => ∃ k g c:Nat,k≤64∧w.heap.size≤g∧i = .int .i64 k∧s = .slice (some ⟨g,0,none⟩) 8 c∧CellsW wr g 8 (Sha.rounds (Sha.ws f) v k)∧RowW wr w.heap.size 177 64 (Sha.ws f)∧Below w.heap.size w wr) (fun _ i _ _ _ _ _ => 64 - (intOf i).toNat)
     case atStart => exact ⟨0,g,c,by omega,hgw,rfl,rfl,HV1.out,HW1.out,HB1.out⟩
     case round =>
      clear HV1 HW1 HB1 hgw
      obtain ⟨k,g,c,hk,hgw,rfl,rfl,hcs,hrw,hbw⟩:=hrel
      rename_i wr
      have HVc:Hid (CellsW wr g 8 (Sha.rounds (Sha.ws f) v k)):=hcs
      have HWr:Hid (RowW wr w.heap.size 177 64 (Sha.ws f)):=hrw
      have HB:Hid (Below w.heap.size w wr):=hbw
      by_cases hlt:k < 64
      ·have hlt':(k:Int) < 64:=by omega
       obtain ⟨G,hG⟩:∃ G,G = Sha.rounds (Sha.ws f) v k:=⟨_,rfl⟩
       have R:∀ j,Sha.rounds (Sha.ws f) v (k + 1) j = Sha.step G (Sha.kc k) (Sha.ws f k) j:=fun j => by rw [hG]; rfl
       rw [← hG] at HVc
       have hcg:CellsW wr g 8 G:=HVc.out
       have c0:=hcg 0 (by omega)
       have c1:=hcg 1 (by omega)
       have c2:=hcg 2 (by omega)
       have c3:=hcg 3 (by omega)
       have c4:=hcg 4 (by omega)
       have c5:=hcg 5 (by omega)
       have c6:=hcg 6 (by omega)
       have c7:=hcg 7 (by omega)
       have cW:wr.cell? ⟨w.heap.size,k,none⟩ = some (.int .u32 ((Sha.ws f k:Nat):Int)):=World.rowIs.cell hrw hlt
       have cK:wr.cell? ⟨kb,k,none⟩ = some (.int .u32 ((Sha.kc k:Nat):Int)):=World.rowIs.cell (HK.out.below hbw) hlt
       obtain ⟨P,hP⟩:∃ P,P = Sha.ad (Sha.ad (Sha.ad (Sha.ad (G 7) (Sha.xr (Sha.xr (Sha.rt (G 4) 6) (Sha.rt (G 4) 11)) (Sha.rt (G 4) 25))) (Sha.xr (Sha.an (G 4) (G 5)) (Sha.an (Sha.nt (G 4)) (G 6)))) (Sha.kc k)) (Sha.ws f k):=⟨_,rfl⟩
       obtain ⟨Q,hQ⟩:∃ Q,Q = Sha.ad (Sha.xr (Sha.xr (Sha.rt (G 0) 2) (Sha.rt (G 0) 13)) (Sha.rt (G 0) 22)) (Sha.xr (Sha.xr (Sha.an (G 0) (G 1)) (Sha.an (G 0) (G 2))) (Sha.an (G 1) (G 2))):=⟨_,rfl⟩
       have R0:Hid (Sha.rounds (Sha.ws f) v (k + 1) 0 = Sha.ad P Q):=by show _ = _; rw [R,hP,hQ]; rfl
       have R1:Hid (Sha.rounds (Sha.ws f) v (k + 1) 1 = G 0):=by show _ = _; rw [R]; rfl
       have R2:Hid (Sha.rounds (Sha.ws f) v (k + 1) 2 = G 1):=by show _ = _; rw [R]; rfl
       have R3:Hid (Sha.rounds (Sha.ws f) v (k + 1) 3 = G 2):=by show _ = _; rw [R]; rfl
       have R4:Hid (Sha.rounds (Sha.ws f) v (k + 1) 4 = Sha.ad (G 3) P):=by show _ = _; rw [R,hP]; rfl
       have R5:Hid (Sha.rounds (Sha.ws f) v (k + 1) 5 = G 4):=by show _ = _; rw [R]; rfl
       have R6:Hid (Sha.rounds (Sha.ws f) v (k + 1) 6 = G 5):=by show _ = _; rw [R]; rfl
       have R7:Hid (Sha.rounds (Sha.ws f) v (k + 1) 7 = G 6):=by show _ = _; rw [R]; rfl
       clear R hG hcg HVc hcs hrw hbw
       generalize Sha.ws f k = W at *
       generalize Sha.kc k = Kc at *
       generalize G 0 = va at *
       generalize G 1 = vb at *
       generalize G 2 = vc at *
       generalize G 3 = vd at *
       generalize G 4 = ve at *
       generalize G 5 = vf at *
       generalize G 6 = vg at *
       generalize G 7 = vh at *
       clear G
       have T6:Hid (∀ w:World,Calls Tryz.prog 168 #[.int .u32 (ve:Int),.int .u64 6] w fun e w' => e = .returned (.int .u32 ((Sha.rt ve 6:Nat):Int))∧w' = w):=fun w => (TU.out ve 6 w (by unfold Turns; omega)).mono fun _ _ h => ⟨h.1,h.2.symm⟩
       have T11:Hid (∀ w:World,Calls Tryz.prog 168 #[.int .u32 (ve:Int),.int .u64 11] w fun e w' => e = .returned (.int .u32 ((Sha.rt ve 11:Nat):Int))∧w' = w):=fun w => (TU.out ve 11 w (by unfold Turns; omega)).mono fun _ _ h => ⟨h.1,h.2.symm⟩
       have T25:Hid (∀ w:World,Calls Tryz.prog 168 #[.int .u32 (ve:Int),.int .u64 25] w fun e w' => e = .returned (.int .u32 ((Sha.rt ve 25:Nat):Int))∧w' = w):=fun w => (TU.out ve 25 w (by unfold Turns; omega)).mono fun _ _ h => ⟨h.1,h.2.symm⟩
       have T2:Hid (∀ w:World,Calls Tryz.prog 168 #[.int .u32 (va:Int),.int .u64 2] w fun e w' => e = .returned (.int .u32 ((Sha.rt va 2:Nat):Int))∧w' = w):=fun w => (TU.out va 2 w (by unfold Turns; omega)).mono fun _ _ h => ⟨h.1,h.2.symm⟩
       have T13:Hid (∀ w:World,Calls Tryz.prog 168 #[.int .u32 (va:Int),.int .u64 13] w fun e w' => e = .returned (.int .u32 ((Sha.rt va 13:Nat):Int))∧w' = w):=fun w => (TU.out va 13 w (by unfold Turns; omega)).mono fun _ _ h => ⟨h.1,h.2.symm⟩
       have T22:Hid (∀ w:World,Calls Tryz.prog 168 #[.int .u32 (va:Int),.int .u64 22] w fun e w' => e = .returned (.int .u32 ((Sha.rt va 22:Nat):Int))∧w' = w):=fun w => (TU.out va 22 w (by unfold Turns; omega)).mono fun _ _ h => ⟨h.1,h.2.symm⟩
       generalize Sha.rt ve 6 = r6 at *
       generalize Sha.rt ve 11 = r11 at *
       generalize Sha.rt ve 25 = r25 at *
       generalize Sha.rt va 2 = r2 at *
       generalize Sha.rt va 13 = r13 at *
       generalize Sha.rt va 22 = r22 at *
       have E1:=big_int r6 r11 r25
       have E0:=big_int r2 r13 r22
       have EN:=nt_int ve
       have EN':bits .xor .u32 (if IntKind.u32.signed = true then -1 else IntKind.u32.max) (ve:Int) = ((Sha.nt ve:Nat):Int):=nt_int ve
       have EC:=chS_int ve vf vg
       have EM:=majS_int va vb vc
       generalize Sha.nt ve = ne at *
       generalize Sha.xr (Sha.an ve vf) (Sha.an ne vg) = CH at *
       generalize Sha.xr (Sha.xr (Sha.an va vb) (Sha.an va vc)) (Sha.an vb vc) = MJ at *
       generalize Sha.xr (Sha.xr r6 r11) r25 = B1 at *
       generalize Sha.xr (Sha.xr r2 r13) r22 = B0 at *
       have A1:=u32_add_nat vh B1
       have A2:=u32_add_nat (Sha.ad vh B1) CH
       have A3:=u32_add_nat (Sha.ad (Sha.ad vh B1) CH) Kc
       have A4:=u32_add_nat (Sha.ad (Sha.ad (Sha.ad vh B1) CH) Kc) W
       rw [← hP] at A4
       have A5:=u32_add_nat B0 MJ
       rw [← hQ] at A5
       have A6:=u32_add_nat vd P
       have A7:=u32_add_nat P Q
       generalize Sha.ad (Sha.ad (Sha.ad vh B1) CH) Kc = N3 at *
       generalize Sha.ad (Sha.ad vh B1) CH = N2 at *
       generalize Sha.ad vh B1 = N1 at *
       generalize Sha.ad vd P = DP at *
       generalize Sha.ad P Q = PQ at *
       clear hP hQ
       go_wp2_with fail
       refine wp_region_noPanic ?_
       refine wp_region_held_drew (S:=fun w' => w'.cell? ⟨g,4,none⟩ = some (.int .u32 (ve:Int))∧w'.cell? ⟨g,5,none⟩ = some (.int .u32 (vf:Int))∧w'.cell? ⟨g,6,none⟩ = some (.int .u32 (vg:Int))∧w'.cell? ⟨g,7,none⟩ = some (.int .u32 (vh:Int))∧w'.cell? ⟨kb,k,none⟩ = some (.int .u32 (Kc:Int))∧w'.cell? ⟨w.heap.size,k,none⟩ = some (.int .u32 (W:Int))) (by kernel_rfl) ⟨c4,c5,c6,c7,cK,cW⟩ (fun _ => ?_)
       have HS:Hid (wr.drew.cell? ⟨g,4,none⟩ = some (.int .u32 (ve:Int))∧wr.drew.cell? ⟨g,5,none⟩ = some (.int .u32 (vf:Int))∧wr.drew.cell? ⟨g,6,none⟩ = some (.int .u32 (vg:Int))∧wr.drew.cell? ⟨g,7,none⟩ = some (.int .u32 (vh:Int))∧wr.drew.cell? ⟨kb,k,none⟩ = some (.int .u32 (Kc:Int))∧wr.drew.cell? ⟨w.heap.size,k,none⟩ = some (.int .u32 (W:Int))):=⟨c4,c5,c6,c7,cK,cW⟩
       refine wpAnyH_take (i:=0) (v:=.slice (some ⟨g,0,none⟩) 8 c) rfl (by kernel_rfl) (by kernel_rfl) (by kernel_rfl) (fun _ _ _ h => h) (Or.inl ⟨by rfl,?_⟩) HS.out ?_
       ·intro wq hSq; obtain ⟨d4,d5,d6,d7,dK,dW⟩:=hSq; go_simp
       refine ch222 ?_
       refine wpAnyH_take (i:=1) (v:=.pointer (some ⟨g,7,none⟩)) rfl (by kernel_rfl) (by kernel_rfl) (by kernel_rfl) (fun _ _ _ h => h) (Or.inl ⟨by rfl,?_⟩) HS.out ?_
       ·intro wq hSq; obtain ⟨d4,d5,d6,d7,dK,dW⟩:=hSq; go_simp
       refine ch222 ?_
       refine wpAnyH_take (i:=2) (v:=.int .u32 (vh:Int)) rfl (by kernel_rfl) (by kernel_rfl) (by kernel_rfl) (fun _ _ _ h => h) (Or.inl ⟨by rfl,?_⟩) HS.out ?_
       ·intro wq hSq; obtain ⟨d4,d5,d6,d7,dK,dW⟩:=hSq; go_simp
       refine ch222 ?_
       refine wpAnyH_take (i:=3) (v:=.int .u32 (ve:Int)) rfl (by kernel_rfl) (by kernel_rfl) (by kernel_rfl) (fun _ _ _ h => h) (Or.inl ⟨by rfl,?_⟩) HS.out ?_
       ·intro wq hSq; obtain ⟨d4,d5,d6,d7,dK,dW⟩:=hSq; go_simp
       refine ch222 ?_
       refine wpAnyH_take (i:=5) (v:=.int .u32 (ve:Int)) rfl (by kernel_rfl) (by kernel_rfl) (by kernel_rfl) (fun _ _ _ h => h) (Or.inl ⟨by rfl,?_⟩) HS.out ?_
       ·intro wq hSq; obtain ⟨d4,d5,d6,d7,dK,dW⟩:=hSq; go_simp
       refine ch222 ?_
       refine wpAnyH_take (i:=8) (v:=.int .u32 (ve:Int)) rfl (by kernel_rfl) (by kernel_rfl) (by kernel_rfl) (fun _ _ _ h => h) (Or.inl ⟨by rfl,?_⟩) HS.out ?_
       ·intro wq hSq; obtain ⟨d4,d5,d6,d7,dK,dW⟩:=hSq; go_simp
       refine ch222 ?_
       refine wpAnyH_take (i:=12) (v:=.int .u32 (ve:Int)) rfl (by kernel_rfl) (by kernel_rfl) (by kernel_rfl) (fun _ _ _ h => h) (Or.inl ⟨by rfl,?_⟩) HS.out ?_
       ·intro wq hSq; obtain ⟨d4,d5,d6,d7,dK,dW⟩:=hSq; go_simp
       refine ch222 ?_
       refine wpAnyH_take (i:=13) (v:=.slice (some ⟨g,0,none⟩) 8 c) rfl (by kernel_rfl) (by kernel_rfl) (by kernel_rfl) (fun _ _ _ h => h) (Or.inl ⟨by rfl,?_⟩) HS.out ?_
       ·intro wq hSq; obtain ⟨d4,d5,d6,d7,dK,dW⟩:=hSq; go_simp
       refine ch222 ?_
       refine wpAnyH_take (i:=14) (v:=.pointer (some ⟨g,5,none⟩)) rfl (by kernel_rfl) (by kernel_rfl) (by kernel_rfl) (fun _ _ _ h => h) (Or.inl ⟨by rfl,?_⟩) HS.out ?_
       ·intro wq hSq; obtain ⟨d4,d5,d6,d7,dK,dW⟩:=hSq; go_simp
       refine ch222 ?_
       refine wpAnyH_take (i:=15) (v:=.int .u32 (vf:Int)) rfl (by kernel_rfl) (by kernel_rfl) (by kernel_rfl) (fun _ _ _ h => h) (Or.inl ⟨by rfl,?_⟩) HS.out ?_
       ·intro wq hSq; obtain ⟨d4,d5,d6,d7,dK,dW⟩:=hSq; go_simp
       refine ch222 ?_
       refine wpAnyH_take (i:=16) (v:=.int .u32 (bits .and .u32 (ve:Int) (vf:Int))) rfl (by kernel_rfl) (by kernel_rfl) (by kernel_rfl) (fun _ _ _ h => h) (Or.inl ⟨by rfl,?_⟩) HS.out ?_
       ·intro wq hSq; obtain ⟨d4,d5,d6,d7,dK,dW⟩:=hSq; go_simp
       refine ch222 ?_
       refine wpAnyH_take (i:=17) (v:=.int .u32 (ve:Int)) rfl (by kernel_rfl) (by kernel_rfl) (by kernel_rfl) (fun _ _ _ h => h) (Or.inl ⟨by rfl,?_⟩) HS.out ?_
       ·intro wq hSq; obtain ⟨d4,d5,d6,d7,dK,dW⟩:=hSq; go_simp
       refine ch222 ?_
       refine wpAnyH_take (i:=18) (v:=.int .u32 (ne:Int)) rfl (by kernel_rfl) (by kernel_rfl) (by kernel_rfl) (fun _ _ _ h => h) (Or.inl ⟨by rfl,?_⟩) HS.out ?_
       ·intro wq hSq; obtain ⟨d4,d5,d6,d7,dK,dW⟩:=hSq; go_simp
       refine ch222 ?_
       refine wpAnyH_take (i:=19) (v:=.slice (some ⟨g,0,none⟩) 8 c) rfl (by kernel_rfl) (by kernel_rfl) (by kernel_rfl) (fun _ _ _ h => h) (Or.inl ⟨by rfl,?_⟩) HS.out ?_
       ·intro wq hSq; obtain ⟨d4,d5,d6,d7,dK,dW⟩:=hSq; go_simp
       refine ch222 ?_
       refine wpAnyH_take (i:=20) (v:=.pointer (some ⟨g,6,none⟩)) rfl (by kernel_rfl) (by kernel_rfl) (by kernel_rfl) (fun _ _ _ h => h) (Or.inl ⟨by rfl,?_⟩) HS.out ?_
       ·intro wq hSq; obtain ⟨d4,d5,d6,d7,dK,dW⟩:=hSq; go_simp
       refine ch222 ?_
       refine wpAnyH_take (i:=21) (v:=.int .u32 (vg:Int)) rfl (by kernel_rfl) (by kernel_rfl) (by kernel_rfl) (fun _ _ _ h => h) (Or.inl ⟨by rfl,?_⟩) HS.out ?_
       ·intro wq hSq; obtain ⟨d4,d5,d6,d7,dK,dW⟩:=hSq; go_simp
       refine ch222 ?_
       refine wpAnyH_take (i:=22) (v:=.int .u32 (bits .and .u32 (ne:Int) (vg:Int))) rfl (by kernel_rfl) (by kernel_rfl) (by kernel_rfl) (fun _ _ _ h => h) (Or.inl ⟨by rfl,?_⟩) HS.out ?_
       ·intro wq hSq; obtain ⟨d4,d5,d6,d7,dK,dW⟩:=hSq; go_simp
       refine ch222 ?_
       refine wpAnyH_take (i:=23) (v:=.int .u32 (CH:Int)) rfl (by kernel_rfl) (by kernel_rfl) (by kernel_rfl) (fun _ _ _ h => h) (Or.inl ⟨by rfl,?_⟩) HS.out ?_
       ·intro wq hSq; obtain ⟨d4,d5,d6,d7,dK,dW⟩:=hSq; go_simp
       refine ch222 ?_
       refine wpAnyH_take (i:=25) (v:=.slice (some ⟨kb,0,none⟩) 64 64) rfl (by kernel_rfl) (by kernel_rfl) (by kernel_rfl) (fun _ _ _ h => h) (Or.inl ⟨by rfl,?_⟩) HS.out ?_
       ·intro wq hSq; obtain ⟨d4,d5,d6,d7,dK,dW⟩:=hSq; go_simp
       refine ch222 ?_
       refine wpAnyH_take (i:=26) (v:=.int .i64 (k:Int)) rfl (by kernel_rfl) (by kernel_rfl) (by kernel_rfl) (fun _ _ _ h => h) (Or.inl ⟨by rfl,?_⟩) HS.out ?_
       ·intro wq hSq; obtain ⟨d4,d5,d6,d7,dK,dW⟩:=hSq; go_simp
       refine ch222 ?_
       refine wpAnyH_take (i:=27) (v:=.pointer (some ⟨kb,k,none⟩)) rfl (by kernel_rfl) (by kernel_rfl) (by kernel_rfl) (fun _ _ _ h => h) (Or.inl ⟨by rfl,?_⟩) HS.out ?_
       ·intro wq hSq; obtain ⟨d4,d5,d6,d7,dK,dW⟩:=hSq; go_simp
       refine ch222 ?_
       refine wpAnyH_take (i:=28) (v:=.int .u32 (Kc:Int)) rfl (by kernel_rfl) (by kernel_rfl) (by kernel_rfl) (fun _ _ _ h => h) (Or.inl ⟨by rfl,?_⟩) HS.out ?_
       ·intro wq hSq; obtain ⟨d4,d5,d6,d7,dK,dW⟩:=hSq; go_simp
       refine ch222 ?_
       refine wpAnyH_take (i:=30) (v:=.slice (some ⟨w.heap.size,0,none⟩) 64 64) rfl (by kernel_rfl) (by kernel_rfl) (by kernel_rfl) (fun _ _ _ h => h) (Or.inl ⟨by rfl,?_⟩) HS.out ?_
       ·intro wq hSq; obtain ⟨d4,d5,d6,d7,dK,dW⟩:=hSq; go_simp
       refine ch222 ?_
       refine wpAnyH_take (i:=31) (v:=.int .i64 (k:Int)) rfl (by kernel_rfl) (by kernel_rfl) (by kernel_rfl) (fun _ _ _ h => h) (Or.inl ⟨by rfl,?_⟩) HS.out ?_
       ·intro wq hSq; obtain ⟨d4,d5,d6,d7,dK,dW⟩:=hSq; go_simp
       refine ch222 ?_
       refine wpAnyH_take (i:=32) (v:=.pointer (some ⟨w.heap.size,k,none⟩)) rfl (by kernel_rfl) (by kernel_rfl) (by kernel_rfl) (fun _ _ _ h => h) (Or.inl ⟨by rfl,?_⟩) HS.out ?_
       ·intro wq hSq; obtain ⟨d4,d5,d6,d7,dK,dW⟩:=hSq; go_simp
       refine ch222 ?_
       refine wpAnyH_take (i:=33) (v:=.int .u32 (W:Int)) rfl (by kernel_rfl) (by kernel_rfl) (by kernel_rfl) (fun _ _ _ h => h) (Or.inl ⟨by rfl,?_⟩) HS.out ?_
       ·intro wq hSq; obtain ⟨d4,d5,d6,d7,dK,dW⟩:=hSq; go_simp
       refine ch222 ?_
       refine wpAnyH_ready (rs:=[4]) (by kernel_rfl) (by simp) ?_
       refine AllReadyH.cons rfl (fun KK hK => ?_) AllReadyH.nil
       go_simp
       refine (T6.out _).mono ?_
       rintro e w' ⟨rfl,rfl⟩
       refine hK.out _ _ HS.out (fun _ => ?_)
       clear hK KK
       refine ch222 ?_
       refine wpAnyH_ready (rs:=[6]) (by kernel_rfl) (by simp) ?_
       refine AllReadyH.cons rfl (fun KK hK => ?_) AllReadyH.nil
       go_simp
       refine (T11.out _).mono ?_
       rintro e w' ⟨rfl,rfl⟩
       refine hK.out _ _ HS.out (fun _ => ?_)
       clear hK KK
       refine ch222 ?_
       refine wpAnyH_take (i:=7) (v:=.int .u32 (bits .xor .u32 (r6:Int) (r11:Int))) rfl (by kernel_rfl) (by kernel_rfl) (by kernel_rfl) (fun _ _ _ h => h) (Or.inl ⟨by rfl,?_⟩) HS.out ?_
       ·intro wq hSq; obtain ⟨d4,d5,d6,d7,dK,dW⟩:=hSq; go_simp
       refine ch222 ?_
       refine wpAnyH_ready (rs:=[9]) (by kernel_rfl) (by simp) ?_
       refine AllReadyH.cons rfl (fun KK hK => ?_) AllReadyH.nil
       go_simp
       refine (T25.out _).mono ?_
       rintro e w' ⟨rfl,rfl⟩
       refine hK.out _ _ HS.out (fun _ => ?_)
       clear hK KK
       refine ch222 ?_
       refine wpAnyH_take (i:=10) (v:=.int .u32 (B1:Int)) rfl (by kernel_rfl) (by kernel_rfl) (by kernel_rfl) (fun _ _ _ h => h) (Or.inl ⟨by rfl,?_⟩) HS.out ?_
       ·intro wq hSq; obtain ⟨d4,d5,d6,d7,dK,dW⟩:=hSq; go_simp
       refine ch222 ?_
       refine wpAnyH_take (i:=11) (v:=.int .u32 (N1:Int)) rfl (by kernel_rfl) (by kernel_rfl) (by kernel_rfl) (fun _ _ _ h => h) (Or.inl ⟨by rfl,?_⟩) HS.out ?_
       ·intro wq hSq; obtain ⟨d4,d5,d6,d7,dK,dW⟩:=hSq; go_simp
       refine ch222 ?_
       refine wpAnyH_take (i:=24) (v:=.int .u32 (N2:Int)) rfl (by kernel_rfl) (by kernel_rfl) (by kernel_rfl) (fun _ _ _ h => h) (Or.inl ⟨by rfl,?_⟩) HS.out ?_
       ·intro wq hSq; obtain ⟨d4,d5,d6,d7,dK,dW⟩:=hSq; go_simp
       refine ch222 ?_
       refine wpAnyH_take (i:=29) (v:=.int .u32 (N3:Int)) rfl (by kernel_rfl) (by kernel_rfl) (by kernel_rfl) (fun _ _ _ h => h) (Or.inl ⟨by rfl,?_⟩) HS.out ?_
       ·intro wq hSq; obtain ⟨d4,d5,d6,d7,dK,dW⟩:=hSq; go_simp
       refine ch222 ?_
       refine wpAnyH_take (i:=34) (v:=.int .u32 (P:Int)) rfl (by kernel_rfl) (by kernel_rfl) (by kernel_rfl) (fun _ _ _ h => h) (Or.inl ⟨by rfl,?_⟩) HS.out ?_
       ·intro wq hSq; obtain ⟨d4,d5,d6,d7,dK,dW⟩:=hSq; go_simp
       refine ch222 ?_
       refine wpAnyH_take (i:=35) (v:=.int .u32 (P:Int)) rfl (by kernel_rfl) (by kernel_rfl) (by kernel_rfl) (fun _ _ _ h => h) (Or.inl ⟨by rfl,?_⟩) HS.out ?_
       ·intro wq hSq; obtain ⟨d4,d5,d6,d7,dK,dW⟩:=hSq; go_simp
       refine ch222 ?_
       refine wpAnyH_done (by kernel_rfl) ?_ _
       refine NoPanic.normal ?_
       have HWr2:Hid (RowW wr.drew w.heap.size 177 64 (Sha.ws f)):=HWr.out
       have HB2:Hid (Below w.heap.size w wr.drew):=HB.out.drew
       replace c0:wr.drew.cell? ⟨g,0,none⟩ = some (.int .u32 (va:Int)):=c0
       replace c1:wr.drew.cell? ⟨g,1,none⟩ = some (.int .u32 (vb:Int)):=c1
       replace c2:wr.drew.cell? ⟨g,2,none⟩ = some (.int .u32 (vc:Int)):=c2
       replace c3:wr.drew.cell? ⟨g,3,none⟩ = some (.int .u32 (vd:Int)):=c3
       replace c4:wr.drew.cell? ⟨g,4,none⟩ = some (.int .u32 (ve:Int)):=c4
       replace c5:wr.drew.cell? ⟨g,5,none⟩ = some (.int .u32 (vf:Int)):=c5
       replace c6:wr.drew.cell? ⟨g,6,none⟩ = some (.int .u32 (vg:Int)):=c6
       clear HWr HB HS c7 cK cW E1 EN EN' EC A1 A2 A3 A4 T6 T11 T25
       generalize wr.drew = wr2 at *
       go_wp2_with fail
       refine wp_region_noPanic ?_
       refine wp_region_held_drew (S:=fun w' => w'.cell? ⟨g,1,none⟩ = some (.int .u32 (vb:Int))∧w'.cell? ⟨g,2,none⟩ = some (.int .u32 (vc:Int))) (by kernel_rfl) ⟨c1,c2⟩ (fun _ => ?_)
       have HS:Hid (wr2.drew.cell? ⟨g,1,none⟩ = some (.int .u32 (vb:Int))∧wr2.drew.cell? ⟨g,2,none⟩ = some (.int .u32 (vc:Int))):=⟨c1,c2⟩
       refine wpAnyH_take (i:=0) (v:=.int .u32 (va:Int)) rfl (by kernel_rfl) (by kernel_rfl) (by kernel_rfl) (fun _ _ _ h => h) (Or.inl ⟨by rfl,?_⟩) HS.out ?_
       ·intro wq hSq; obtain ⟨d1,d2⟩:=hSq; go_simp
       refine ch222 ?_
       refine wpAnyH_take (i:=2) (v:=.int .u32 (va:Int)) rfl (by kernel_rfl) (by kernel_rfl) (by kernel_rfl) (fun _ _ _ h => h) (Or.inl ⟨by rfl,?_⟩) HS.out ?_
       ·intro wq hSq; obtain ⟨d1,d2⟩:=hSq; go_simp
       refine ch222 ?_
       refine wpAnyH_take (i:=5) (v:=.int .u32 (va:Int)) rfl (by kernel_rfl) (by kernel_rfl) (by kernel_rfl) (fun _ _ _ h => h) (Or.inl ⟨by rfl,?_⟩) HS.out ?_
       ·intro wq hSq; obtain ⟨d1,d2⟩:=hSq; go_simp
       refine ch222 ?_
       refine wpAnyH_take (i:=8) (v:=.int .u32 (va:Int)) rfl (by kernel_rfl) (by kernel_rfl) (by kernel_rfl) (fun _ _ _ h => h) (Or.inl ⟨by rfl,?_⟩) HS.out ?_
       ·intro wq hSq; obtain ⟨d1,d2⟩:=hSq; go_simp
       refine ch222 ?_
       refine wpAnyH_take (i:=9) (v:=.slice (some ⟨g,0,none⟩) 8 c) rfl (by kernel_rfl) (by kernel_rfl) (by kernel_rfl) (fun _ _ _ h => h) (Or.inl ⟨by rfl,?_⟩) HS.out ?_
       ·intro wq hSq; obtain ⟨d1,d2⟩:=hSq; go_simp
       refine ch222 ?_
       refine wpAnyH_take (i:=10) (v:=.pointer (some ⟨g,1,none⟩)) rfl (by kernel_rfl) (by kernel_rfl) (by kernel_rfl) (fun _ _ _ h => h) (Or.inl ⟨by rfl,?_⟩) HS.out ?_
       ·intro wq hSq; obtain ⟨d1,d2⟩:=hSq; go_simp
       refine ch222 ?_
       refine wpAnyH_take (i:=11) (v:=.int .u32 (vb:Int)) rfl (by kernel_rfl) (by kernel_rfl) (by kernel_rfl) (fun _ _ _ h => h) (Or.inl ⟨by rfl,?_⟩) HS.out ?_
       ·intro wq hSq; obtain ⟨d1,d2⟩:=hSq; go_simp
       refine ch222 ?_
       refine wpAnyH_take (i:=12) (v:=.int .u32 (bits .and .u32 (va:Int) (vb:Int))) rfl (by kernel_rfl) (by kernel_rfl) (by kernel_rfl) (fun _ _ _ h => h) (Or.inl ⟨by rfl,?_⟩) HS.out ?_
       ·intro wq hSq; obtain ⟨d1,d2⟩:=hSq; go_simp
       refine ch222 ?_
       refine wpAnyH_take (i:=13) (v:=.int .u32 (va:Int)) rfl (by kernel_rfl) (by kernel_rfl) (by kernel_rfl) (fun _ _ _ h => h) (Or.inl ⟨by rfl,?_⟩) HS.out ?_
       ·intro wq hSq; obtain ⟨d1,d2⟩:=hSq; go_simp
       refine ch222 ?_
       refine wpAnyH_take (i:=14) (v:=.slice (some ⟨g,0,none⟩) 8 c) rfl (by kernel_rfl) (by kernel_rfl) (by kernel_rfl) (fun _ _ _ h => h) (Or.inl ⟨by rfl,?_⟩) HS.out ?_
       ·intro wq hSq; obtain ⟨d1,d2⟩:=hSq; go_simp
       refine ch222 ?_
       refine wpAnyH_take (i:=15) (v:=.pointer (some ⟨g,2,none⟩)) rfl (by kernel_rfl) (by kernel_rfl) (by kernel_rfl) (fun _ _ _ h => h) (Or.inl ⟨by rfl,?_⟩) HS.out ?_
       ·intro wq hSq; obtain ⟨d1,d2⟩:=hSq; go_simp
       refine ch222 ?_
       refine wpAnyH_take (i:=16) (v:=.int .u32 (vc:Int)) rfl (by kernel_rfl) (by kernel_rfl) (by kernel_rfl) (fun _ _ _ h => h) (Or.inl ⟨by rfl,?_⟩) HS.out ?_
       ·intro wq hSq; obtain ⟨d1,d2⟩:=hSq; go_simp
       refine ch222 ?_
       refine wpAnyH_take (i:=17) (v:=.int .u32 (bits .and .u32 (va:Int) (vc:Int))) rfl (by kernel_rfl) (by kernel_rfl) (by kernel_rfl) (fun _ _ _ h => h) (Or.inl ⟨by rfl,?_⟩) HS.out ?_
       ·intro wq hSq; obtain ⟨d1,d2⟩:=hSq; go_simp
       refine ch222 ?_
       refine wpAnyH_take (i:=18) (v:=.int .u32 (bits .xor .u32 (bits .and .u32 (va:Int) (vb:Int)) (bits .and .u32 (va:Int) (vc:Int)))) rfl (by kernel_rfl) (by kernel_rfl) (by kernel_rfl) (fun _ _ _ h => h) (Or.inl ⟨by rfl,?_⟩) HS.out ?_
       ·intro wq hSq; obtain ⟨d1,d2⟩:=hSq; go_simp
       refine ch222 ?_
       refine wpAnyH_take (i:=19) (v:=.slice (some ⟨g,0,none⟩) 8 c) rfl (by kernel_rfl) (by kernel_rfl) (by kernel_rfl) (fun _ _ _ h => h) (Or.inl ⟨by rfl,?_⟩) HS.out ?_
       ·intro wq hSq; obtain ⟨d1,d2⟩:=hSq; go_simp
       refine ch222 ?_
       refine wpAnyH_take (i:=20) (v:=.pointer (some ⟨g,1,none⟩)) rfl (by kernel_rfl) (by kernel_rfl) (by kernel_rfl) (fun _ _ _ h => h) (Or.inl ⟨by rfl,?_⟩) HS.out ?_
       ·intro wq hSq; obtain ⟨d1,d2⟩:=hSq; go_simp
       refine ch222 ?_
       refine wpAnyH_take (i:=21) (v:=.int .u32 (vb:Int)) rfl (by kernel_rfl) (by kernel_rfl) (by kernel_rfl) (fun _ _ _ h => h) (Or.inl ⟨by rfl,?_⟩) HS.out ?_
       ·intro wq hSq; obtain ⟨d1,d2⟩:=hSq; go_simp
       refine ch222 ?_
       refine wpAnyH_take (i:=22) (v:=.slice (some ⟨g,0,none⟩) 8 c) rfl (by kernel_rfl) (by kernel_rfl) (by kernel_rfl) (fun _ _ _ h => h) (Or.inl ⟨by rfl,?_⟩) HS.out ?_
       ·intro wq hSq; obtain ⟨d1,d2⟩:=hSq; go_simp
       refine ch222 ?_
       refine wpAnyH_take (i:=23) (v:=.pointer (some ⟨g,2,none⟩)) rfl (by kernel_rfl) (by kernel_rfl) (by kernel_rfl) (fun _ _ _ h => h) (Or.inl ⟨by rfl,?_⟩) HS.out ?_
       ·intro wq hSq; obtain ⟨d1,d2⟩:=hSq; go_simp
       refine ch222 ?_
       refine wpAnyH_take (i:=24) (v:=.int .u32 (vc:Int)) rfl (by kernel_rfl) (by kernel_rfl) (by kernel_rfl) (fun _ _ _ h => h) (Or.inl ⟨by rfl,?_⟩) HS.out ?_
       ·intro wq hSq; obtain ⟨d1,d2⟩:=hSq; go_simp
       refine ch222 ?_
       refine wpAnyH_take (i:=25) (v:=.int .u32 (bits .and .u32 (vb:Int) (vc:Int))) rfl (by kernel_rfl) (by kernel_rfl) (by kernel_rfl) (fun _ _ _ h => h) (Or.inl ⟨by rfl,?_⟩) HS.out ?_
       ·intro wq hSq; obtain ⟨d1,d2⟩:=hSq; go_simp
       refine ch222 ?_
       refine wpAnyH_take (i:=26) (v:=.int .u32 (MJ:Int)) rfl (by kernel_rfl) (by kernel_rfl) (by kernel_rfl) (fun _ _ _ h => h) (Or.inl ⟨by rfl,?_⟩) HS.out ?_
       ·intro wq hSq; obtain ⟨d1,d2⟩:=hSq; go_simp
       refine ch222 ?_
       refine wpAnyH_ready (rs:=[1]) (by kernel_rfl) (by simp) ?_
       refine AllReadyH.cons rfl (fun KK hK => ?_) AllReadyH.nil
       go_simp
       refine (T2.out _).mono ?_
       rintro e w' ⟨rfl,rfl⟩
       refine hK.out _ _ HS.out (fun _ => ?_)
       clear hK KK
       refine ch222 ?_
       refine wpAnyH_ready (rs:=[3]) (by kernel_rfl) (by simp) ?_
       refine AllReadyH.cons rfl (fun KK hK => ?_) AllReadyH.nil
       go_simp
       refine (T13.out _).mono ?_
       rintro e w' ⟨rfl,rfl⟩
       refine hK.out _ _ HS.out (fun _ => ?_)
       clear hK KK
       refine ch222 ?_
       refine wpAnyH_take (i:=4) (v:=.int .u32 (bits .xor .u32 (r2:Int) (r13:Int))) rfl (by kernel_rfl) (by kernel_rfl) (by kernel_rfl) (fun _ _ _ h => h) (Or.inl ⟨by rfl,?_⟩) HS.out ?_
       ·intro wq hSq; obtain ⟨d1,d2⟩:=hSq; go_simp
       refine ch222 ?_
       refine wpAnyH_ready (rs:=[6]) (by kernel_rfl) (by simp) ?_
       refine AllReadyH.cons rfl (fun KK hK => ?_) AllReadyH.nil
       go_simp
       refine (T22.out _).mono ?_
       rintro e w' ⟨rfl,rfl⟩
       refine hK.out _ _ HS.out (fun _ => ?_)
       clear hK KK
       refine ch222 ?_
       refine wpAnyH_take (i:=7) (v:=.int .u32 (B0:Int)) rfl (by kernel_rfl) (by kernel_rfl) (by kernel_rfl) (fun _ _ _ h => h) (Or.inl ⟨by rfl,?_⟩) HS.out ?_
       ·intro wq hSq; obtain ⟨d1,d2⟩:=hSq; go_simp
       refine ch222 ?_
       refine wpAnyH_take (i:=27) (v:=.int .u32 (Q:Int)) rfl (by kernel_rfl) (by kernel_rfl) (by kernel_rfl) (fun _ _ _ h => h) (Or.inl ⟨by rfl,?_⟩) HS.out ?_
       ·intro wq hSq; obtain ⟨d1,d2⟩:=hSq; go_simp
       refine ch222 ?_
       refine wpAnyH_take (i:=28) (v:=.int .u32 (Q:Int)) rfl (by kernel_rfl) (by kernel_rfl) (by kernel_rfl) (fun _ _ _ h => h) (Or.inl ⟨by rfl,?_⟩) HS.out ?_
       ·intro wq hSq; obtain ⟨d1,d2⟩:=hSq; go_simp
       refine ch222 ?_
       refine wpAnyH_done (by kernel_rfl) ?_ _
       refine NoPanic.normal ?_
       have HWr3:Hid (RowW wr2.drew w.heap.size 177 64 (Sha.ws f)):=HWr2.out
       have HB3:Hid (Below w.heap.size w wr2.drew):=HB2.out.drew
       replace c0:wr2.drew.cell? ⟨g,0,none⟩ = some (.int .u32 (va:Int)):=c0
       replace c1:wr2.drew.cell? ⟨g,1,none⟩ = some (.int .u32 (vb:Int)):=c1
       replace c2:wr2.drew.cell? ⟨g,2,none⟩ = some (.int .u32 (vc:Int)):=c2
       replace c3:wr2.drew.cell? ⟨g,3,none⟩ = some (.int .u32 (vd:Int)):=c3
       replace c4:wr2.drew.cell? ⟨g,4,none⟩ = some (.int .u32 (ve:Int)):=c4
       replace c5:wr2.drew.cell? ⟨g,5,none⟩ = some (.int .u32 (vf:Int)):=c5
       replace c6:wr2.drew.cell? ⟨g,6,none⟩ = some (.int .u32 (vg:Int)):=c6
       clear HWr2 HB2 HS E0 EM A5 T2 T13 T22
       generalize wr2.drew = wr3 at *
       go_wp2_with fail
       refine wp_region_noPanic ?_
       refine wp_region_held_drew (S:=fun w' => w'.cell? ⟨g,0,none⟩ = some (.int .u32 (va:Int))∧w'.cell? ⟨g,1,none⟩ = some (.int .u32 (vb:Int))∧w'.cell? ⟨g,2,none⟩ = some (.int .u32 (vc:Int))∧w'.cell? ⟨g,3,none⟩ = some (.int .u32 (vd:Int))∧w'.cell? ⟨g,4,none⟩ = some (.int .u32 (ve:Int))∧w'.cell? ⟨g,5,none⟩ = some (.int .u32 (vf:Int))∧w'.cell? ⟨g,6,none⟩ = some (.int .u32 (vg:Int))) (by kernel_rfl) ⟨c0,c1,c2,c3,c4,c5,c6⟩ (fun _ => ?_)
       have HS:Hid (wr3.drew.cell? ⟨g,0,none⟩ = some (.int .u32 (va:Int))∧wr3.drew.cell? ⟨g,1,none⟩ = some (.int .u32 (vb:Int))∧wr3.drew.cell? ⟨g,2,none⟩ = some (.int .u32 (vc:Int))∧wr3.drew.cell? ⟨g,3,none⟩ = some (.int .u32 (vd:Int))∧wr3.drew.cell? ⟨g,4,none⟩ = some (.int .u32 (ve:Int))∧wr3.drew.cell? ⟨g,5,none⟩ = some (.int .u32 (vf:Int))∧wr3.drew.cell? ⟨g,6,none⟩ = some (.int .u32 (vg:Int))):=⟨c0,c1,c2,c3,c4,c5,c6⟩
       refine wpAnyH_take (i:=0) (v:=.int .u32 (P:Int)) rfl (by kernel_rfl) (by kernel_rfl) (by kernel_rfl) (fun _ _ _ h => h) (Or.inl ⟨by rfl,?_⟩) HS.out ?_
       ·intro wq hSq; obtain ⟨d0,d1,d2,d3,d4,d5,d6⟩:=hSq; go_simp
       refine ch222 ?_
       refine wpAnyH_take (i:=1) (v:=.int .u32 (Q:Int)) rfl (by kernel_rfl) (by kernel_rfl) (by kernel_rfl) (fun _ _ _ h => h) (Or.inl ⟨by rfl,?_⟩) HS.out ?_
       ·intro wq hSq; obtain ⟨d0,d1,d2,d3,d4,d5,d6⟩:=hSq; go_simp
       refine ch222 ?_
       refine wpAnyH_take (i:=2) (v:=.int .u32 (PQ:Int)) rfl (by kernel_rfl) (by kernel_rfl) (by kernel_rfl) (fun _ _ _ h => h) (Or.inl ⟨by rfl,?_⟩) HS.out ?_
       ·intro wq hSq; obtain ⟨d0,d1,d2,d3,d4,d5,d6⟩:=hSq; go_simp
       refine ch222 ?_
       refine wpAnyH_take (i:=3) (v:=.slice (some ⟨g,0,none⟩) 8 c) rfl (by kernel_rfl) (by kernel_rfl) (by kernel_rfl) (fun _ _ _ h => h) (Or.inl ⟨by rfl,?_⟩) HS.out ?_
       ·intro wq hSq; obtain ⟨d0,d1,d2,d3,d4,d5,d6⟩:=hSq; go_simp
       refine ch222 ?_
       refine wpAnyH_take (i:=4) (v:=.pointer (some ⟨g,0,none⟩)) rfl (by kernel_rfl) (by kernel_rfl) (by kernel_rfl) (fun _ _ _ h => h) (Or.inl ⟨by rfl,?_⟩) HS.out ?_
       ·intro wq hSq; obtain ⟨d0,d1,d2,d3,d4,d5,d6⟩:=hSq; go_simp
       refine ch222 ?_
       refine wpAnyH_take (i:=5) (v:=.int .u32 (va:Int)) rfl (by kernel_rfl) (by kernel_rfl) (by kernel_rfl) (fun _ _ _ h => h) (Or.inl ⟨by rfl,?_⟩) HS.out ?_
       ·intro wq hSq; obtain ⟨d0,d1,d2,d3,d4,d5,d6⟩:=hSq; go_simp
       refine ch222 ?_
       refine wpAnyH_take (i:=6) (v:=.slice (some ⟨g,0,none⟩) 8 c) rfl (by kernel_rfl) (by kernel_rfl) (by kernel_rfl) (fun _ _ _ h => h) (Or.inl ⟨by rfl,?_⟩) HS.out ?_
       ·intro wq hSq; obtain ⟨d0,d1,d2,d3,d4,d5,d6⟩:=hSq; go_simp
       refine ch222 ?_
       refine wpAnyH_take (i:=7) (v:=.pointer (some ⟨g,1,none⟩)) rfl (by kernel_rfl) (by kernel_rfl) (by kernel_rfl) (fun _ _ _ h => h) (Or.inl ⟨by rfl,?_⟩) HS.out ?_
       ·intro wq hSq; obtain ⟨d0,d1,d2,d3,d4,d5,d6⟩:=hSq; go_simp
       refine ch222 ?_
       refine wpAnyH_take (i:=8) (v:=.int .u32 (vb:Int)) rfl (by kernel_rfl) (by kernel_rfl) (by kernel_rfl) (fun _ _ _ h => h) (Or.inl ⟨by rfl,?_⟩) HS.out ?_
       ·intro wq hSq; obtain ⟨d0,d1,d2,d3,d4,d5,d6⟩:=hSq; go_simp
       refine ch222 ?_
       refine wpAnyH_take (i:=9) (v:=.slice (some ⟨g,0,none⟩) 8 c) rfl (by kernel_rfl) (by kernel_rfl) (by kernel_rfl) (fun _ _ _ h => h) (Or.inl ⟨by rfl,?_⟩) HS.out ?_
       ·intro wq hSq; obtain ⟨d0,d1,d2,d3,d4,d5,d6⟩:=hSq; go_simp
       refine ch222 ?_
       refine wpAnyH_take (i:=10) (v:=.pointer (some ⟨g,2,none⟩)) rfl (by kernel_rfl) (by kernel_rfl) (by kernel_rfl) (fun _ _ _ h => h) (Or.inl ⟨by rfl,?_⟩) HS.out ?_
       ·intro wq hSq; obtain ⟨d0,d1,d2,d3,d4,d5,d6⟩:=hSq; go_simp
       refine ch222 ?_
       refine wpAnyH_take (i:=11) (v:=.int .u32 (vc:Int)) rfl (by kernel_rfl) (by kernel_rfl) (by kernel_rfl) (fun _ _ _ h => h) (Or.inl ⟨by rfl,?_⟩) HS.out ?_
       ·intro wq hSq; obtain ⟨d0,d1,d2,d3,d4,d5,d6⟩:=hSq; go_simp
       refine ch222 ?_
       refine wpAnyH_take (i:=12) (v:=.slice (some ⟨g,0,none⟩) 8 c) rfl (by kernel_rfl) (by kernel_rfl) (by kernel_rfl) (fun _ _ _ h => h) (Or.inl ⟨by rfl,?_⟩) HS.out ?_
       ·intro wq hSq; obtain ⟨d0,d1,d2,d3,d4,d5,d6⟩:=hSq; go_simp
       refine ch222 ?_
       refine wpAnyH_take (i:=13) (v:=.pointer (some ⟨g,3,none⟩)) rfl (by kernel_rfl) (by kernel_rfl) (by kernel_rfl) (fun _ _ _ h => h) (Or.inl ⟨by rfl,?_⟩) HS.out ?_
       ·intro wq hSq; obtain ⟨d0,d1,d2,d3,d4,d5,d6⟩:=hSq; go_simp
       refine ch222 ?_
       refine wpAnyH_take (i:=14) (v:=.int .u32 (vd:Int)) rfl (by kernel_rfl) (by kernel_rfl) (by kernel_rfl) (fun _ _ _ h => h) (Or.inl ⟨by rfl,?_⟩) HS.out ?_
       ·intro wq hSq; obtain ⟨d0,d1,d2,d3,d4,d5,d6⟩:=hSq; go_simp
       refine ch222 ?_
       refine wpAnyH_take (i:=15) (v:=.int .u32 (P:Int)) rfl (by kernel_rfl) (by kernel_rfl) (by kernel_rfl) (fun _ _ _ h => h) (Or.inl ⟨by rfl,?_⟩) HS.out ?_
       ·intro wq hSq; obtain ⟨d0,d1,d2,d3,d4,d5,d6⟩:=hSq; go_simp
       refine ch222 ?_
       refine wpAnyH_take (i:=16) (v:=.int .u32 (DP:Int)) rfl (by kernel_rfl) (by kernel_rfl) (by kernel_rfl) (fun _ _ _ h => h) (Or.inl ⟨by rfl,?_⟩) HS.out ?_
       ·intro wq hSq; obtain ⟨d0,d1,d2,d3,d4,d5,d6⟩:=hSq; go_simp
       refine ch222 ?_
       refine wpAnyH_take (i:=17) (v:=.slice (some ⟨g,0,none⟩) 8 c) rfl (by kernel_rfl) (by kernel_rfl) (by kernel_rfl) (fun _ _ _ h => h) (Or.inl ⟨by rfl,?_⟩) HS.out ?_
       ·intro wq hSq; obtain ⟨d0,d1,d2,d3,d4,d5,d6⟩:=hSq; go_simp
       refine ch222 ?_
       refine wpAnyH_take (i:=18) (v:=.pointer (some ⟨g,4,none⟩)) rfl (by kernel_rfl) (by kernel_rfl) (by kernel_rfl) (fun _ _ _ h => h) (Or.inl ⟨by rfl,?_⟩) HS.out ?_
       ·intro wq hSq; obtain ⟨d0,d1,d2,d3,d4,d5,d6⟩:=hSq; go_simp
       refine ch222 ?_
       refine wpAnyH_take (i:=19) (v:=.int .u32 (ve:Int)) rfl (by kernel_rfl) (by kernel_rfl) (by kernel_rfl) (fun _ _ _ h => h) (Or.inl ⟨by rfl,?_⟩) HS.out ?_
       ·intro wq hSq; obtain ⟨d0,d1,d2,d3,d4,d5,d6⟩:=hSq; go_simp
       refine ch222 ?_
       refine wpAnyH_take (i:=20) (v:=.slice (some ⟨g,0,none⟩) 8 c) rfl (by kernel_rfl) (by kernel_rfl) (by kernel_rfl) (fun _ _ _ h => h) (Or.inl ⟨by rfl,?_⟩) HS.out ?_
       ·intro wq hSq; obtain ⟨d0,d1,d2,d3,d4,d5,d6⟩:=hSq; go_simp
       refine ch222 ?_
       refine wpAnyH_take (i:=21) (v:=.pointer (some ⟨g,5,none⟩)) rfl (by kernel_rfl) (by kernel_rfl) (by kernel_rfl) (fun _ _ _ h => h) (Or.inl ⟨by rfl,?_⟩) HS.out ?_
       ·intro wq hSq; obtain ⟨d0,d1,d2,d3,d4,d5,d6⟩:=hSq; go_simp
       refine ch222 ?_
       refine wpAnyH_take (i:=22) (v:=.int .u32 (vf:Int)) rfl (by kernel_rfl) (by kernel_rfl) (by kernel_rfl) (fun _ _ _ h => h) (Or.inl ⟨by rfl,?_⟩) HS.out ?_
       ·intro wq hSq; obtain ⟨d0,d1,d2,d3,d4,d5,d6⟩:=hSq; go_simp
       refine ch222 ?_
       refine wpAnyH_take (i:=23) (v:=.slice (some ⟨g,0,none⟩) 8 c) rfl (by kernel_rfl) (by kernel_rfl) (by kernel_rfl) (fun _ _ _ h => h) (Or.inl ⟨by rfl,?_⟩) HS.out ?_
       ·intro wq hSq; obtain ⟨d0,d1,d2,d3,d4,d5,d6⟩:=hSq; go_simp
       refine ch222 ?_
       refine wpAnyH_take (i:=24) (v:=.pointer (some ⟨g,6,none⟩)) rfl (by kernel_rfl) (by kernel_rfl) (by kernel_rfl) (fun _ _ _ h => h) (Or.inl ⟨by rfl,?_⟩) HS.out ?_
       ·intro wq hSq; obtain ⟨d0,d1,d2,d3,d4,d5,d6⟩:=hSq; go_simp
       refine ch222 ?_
       refine wpAnyH_take (i:=25) (v:=.int .u32 (vg:Int)) rfl (by kernel_rfl) (by kernel_rfl) (by kernel_rfl) (fun _ _ _ h => h) (Or.inl ⟨by rfl,?_⟩) HS.out ?_
       ·intro wq hSq; obtain ⟨d0,d1,d2,d3,d4,d5,d6⟩:=hSq; go_simp
       refine ch222 ?_
       refine wpAnyH_ready (rs:=[26]) (by kernel_rfl) (by simp) ?_
       refine AllReadyH.cons rfl (fun KK hK => ?_) AllReadyH.nil
       go_simp
       have HS2:Hid ((wr3.alloc (.cells #[.int .u32 (PQ:Int),.int .u32 (va:Int),.int .u32 (vb:Int),.int .u32 (vc:Int),.int .u32 (DP:Int),.int .u32 (ve:Int),.int .u32 (vf:Int),.int .u32 (vg:Int)] 177)).drew.cell? ⟨g,0,none⟩ = some (.int .u32 (va:Int))∧(wr3.alloc (.cells #[.int .u32 (PQ:Int),.int .u32 (va:Int),.int .u32 (vb:Int),.int .u32 (vc:Int),.int .u32 (DP:Int),.int .u32 (ve:Int),.int .u32 (vf:Int),.int .u32 (vg:Int)] 177)).drew.cell? ⟨g,1,none⟩ = some (.int .u32 (vb:Int))∧(wr3.alloc (.cells #[.int .u32 (PQ:Int),.int .u32 (va:Int),.int .u32 (vb:Int),.int .u32 (vc:Int),.int .u32 (DP:Int),.int .u32 (ve:Int),.int .u32 (vf:Int),.int .u32 (vg:Int)] 177)).drew.cell? ⟨g,2,none⟩ = some (.int .u32 (vc:Int))∧(wr3.alloc (.cells #[.int .u32 (PQ:Int),.int .u32 (va:Int),.int .u32 (vb:Int),.int .u32 (vc:Int),.int .u32 (DP:Int),.int .u32 (ve:Int),.int .u32 (vf:Int),.int .u32 (vg:Int)] 177)).drew.cell? ⟨g,3,none⟩ = some (.int .u32 (vd:Int))∧(wr3.alloc (.cells #[.int .u32 (PQ:Int),.int .u32 (va:Int),.int .u32 (vb:Int),.int .u32 (vc:Int),.int .u32 (DP:Int),.int .u32 (ve:Int),.int .u32 (vf:Int),.int .u32 (vg:Int)] 177)).drew.cell? ⟨g,4,none⟩ = some (.int .u32 (ve:Int))∧(wr3.alloc (.cells #[.int .u32 (PQ:Int),.int .u32 (va:Int),.int .u32 (vb:Int),.int .u32 (vc:Int),.int .u32 (DP:Int),.int .u32 (ve:Int),.int .u32 (vf:Int),.int .u32 (vg:Int)] 177)).drew.cell? ⟨g,5,none⟩ = some (.int .u32 (vf:Int))∧(wr3.alloc (.cells #[.int .u32 (PQ:Int),.int .u32 (va:Int),.int .u32 (vb:Int),.int .u32 (vc:Int),.int .u32 (DP:Int),.int .u32 (ve:Int),.int .u32 (vf:Int),.int .u32 (vg:Int)] 177)).drew.cell? ⟨g,6,none⟩ = some (.int .u32 (vg:Int))):=⟨Lib.cell?_alloc_some _ c0,Lib.cell?_alloc_some _ c1,Lib.cell?_alloc_some _ c2,Lib.cell?_alloc_some _ c3,Lib.cell?_alloc_some _ c4,Lib.cell?_alloc_some _ c5,Lib.cell?_alloc_some _ c6⟩
       refine hK.out _ _ HS2.out (fun _ => ?_)
       clear hK KK HS
       refine ch222 ?_
       refine wpAnyH_take (i:=27) (v:=.slice (some ⟨wr3.heap.size,0,none⟩) 8 8) rfl (by kernel_rfl) (by kernel_rfl) (by kernel_rfl) (fun _ _ _ h => h) (Or.inl ⟨by rfl,?_⟩) HS2.out ?_
       ·intro wq hSq; go_simp
       refine ch222 ?_
       refine wpAnyH_done (by kernel_rfl) ?_ _
       refine NoPanic.normal ?_
       have HCN:Hid (CellsW (wr3.alloc (.cells #[.int .u32 (PQ:Int),.int .u32 (va:Int),.int .u32 (vb:Int),.int .u32 (vc:Int),.int .u32 (DP:Int),.int .u32 (ve:Int),.int .u32 (vf:Int),.int .u32 (vg:Int)] 177)).drew wr3.heap.size 8 (Sha.rounds (Sha.ws f) v (k + 1))):=fun j hj => by
        show (wr3.alloc (.cells #[.int .u32 (PQ:Int),.int .u32 (va:Int),.int .u32 (vb:Int),.int .u32 (vc:Int),.int .u32 (DP:Int),.int .u32 (ve:Int),.int .u32 (vf:Int),.int .u32 (vg:Int)] 177)).cell? ⟨wr3.heap.size,j,none⟩ = _
        rcases (show j = 0∨j = 1∨j = 2∨j = 3∨j = 4∨j = 5∨j = 6∨j = 7 by omega) with rfl | rfl | rfl | rfl | rfl | rfl | rfl | rfl
        ·rw [R0.out]; simp
        ·rw [R1.out]; simp
        ·rw [R2.out]; simp
        ·rw [R3.out]; simp
        ·rw [R4.out]; simp
        ·rw [R5.out]; simp
        ·rw [R6.out]; simp
        ·rw [R7.out]; simp
       have HWN:Hid (RowW (wr3.alloc (.cells #[.int .u32 (PQ:Int),.int .u32 (va:Int),.int .u32 (vb:Int),.int .u32 (vc:Int),.int .u32 (DP:Int),.int .u32 (ve:Int),.int .u32 (vf:Int),.int .u32 (vg:Int)] 177)).drew w.heap.size 177 64 (Sha.ws f)):=HWr3.out.alloc _
       have HBN:Hid (Below w.heap.size w (wr3.alloc (.cells #[.int .u32 (PQ:Int),.int .u32 (va:Int),.int .u32 (vb:Int),.int .u32 (vc:Int),.int .u32 (DP:Int),.int .u32 (ve:Int),.int .u32 (vf:Int),.int .u32 (vg:Int)] 177)).drew):=(HB3.out.alloc HB3.out.size _).drew
       have hgN:=HB3.out.size
       clear HS2 HWr3 HB3 R0 R1 R2 R3 R4 R5 R6 R7 c0 c1 c2 c3 c4 c5 c6 A6 A7
       generalize (wr3.alloc (.cells #[.int .u32 (PQ:Int),.int .u32 (va:Int),.int .u32 (vb:Int),.int .u32 (vc:Int),.int .u32 (DP:Int),.int .u32 (ve:Int),.int .u32 (vf:Int),.int .u32 (vg:Int)] 177)).drew = w4 at *
       generalize wr3.heap.size = gn at *
       go_wp2
       go_roundw
       case rel => exact ⟨k + 1,gn,8,by omega,hgN,by go_num,rfl,HCN.out,HWN.out,HBN.out⟩
       case measure => simp [intOf]; omega
      ·obtain rfl:k = 64:=by omega
       have hlt':¬ ((64:Nat):Int) < 64:=by omega
       obtain ⟨G,hG⟩:∃ G,G = Sha.rounds (Sha.ws f) v 64:=⟨_,rfl⟩
       have HBL:Hid (∀ j,Sha.block v f j = Sha.ad (v j) (G j)):=fun j => by rw [hG]; rfl
       have hhb:hb < w.heap.size:=World.rowIs.lt HH.out
       have hgh:g≠hb:=by omega
       have H0:Hid (RowW wr hb 177 8 v):=HH.out.below hbw
       have HG0:Hid (CellsW wr g 8 G):=by rw [hG]; exact hcs
       have HO0:Hid (OnlyB hb w wr):=(OnlyB.refl hb w).below hbw
       clear hG hcs hrw hbw HVc HWr HB hlt TU
       go_wp2
       clear hlt' hk
       go_loopw [17] (fun i wr => ∃ q:Nat,q≤8∧i = .int .i64 q∧RowW wr hb 177 8 (fun j => if j < q then Sha.block v f j else v j)∧CellsW wr g 8 G∧OnlyB hb w wr) (fun i _ => 8 - (intOf i).toNat)
       case atStart => exact ⟨0,by omega,rfl,H0.out.congr (fun j hj => by simp),HG0.out,HO0.out⟩
       case round =>
        clear H0 HG0 HO0
        obtain ⟨q,hq,rfl,hr,hcs,ho⟩:=hrel
        rename_i wr
        have HR:Hid (RowW wr hb 177 8 (fun j => if j < q then Sha.block v f j else v j)):=hr
        have HCs:Hid (CellsW wr g 8 G):=hcs
        have HO:Hid (OnlyB hb w wr):=ho
        by_cases hlt:q < 8
        ·have hlt':(q:Int) < 8:=by omega
         have c1:wr.cell? ⟨hb,q,none⟩ = some (.int .u32 ((v q:Nat):Int)):=by
          have:=World.rowIs.cell hr (i:=q) hlt
          simp only [Nat.lt_irrefl,if_false] at this
          exact this
         have f1:=World.rowIs.frozen hr q
         have c2:=hcs q hlt
         have HV:Hid (Sha.block v f q = Sha.ad (v q) (G q)):=HBL.out q
         have A1:=u32_add_nat (v q) (G q)
         generalize Sha.ad (v q) (G q) = NV at *
         generalize v q = vq at *
         generalize G q = gq at *
         clear hr hcs ho
         go_wp2_with fail
         go_region
         go_wp2
         go_roundw
         case rel =>
          have X:OnlyB hb wr.drew (wr.drew.setCell ⟨hb,q,none⟩ (.int .u32 (NV:Int))):=(OnlyB.refl hb wr.drew).setCell q _
          refine ⟨q + 1,by omega,by go_num,?_,CellsW.onlyB (w:=wr.drew) HCs.out X hgh,?_⟩
          ·exact ((show RowW wr.drew _ _ _ _ from HR.out).set q NV).congr (fun j hj => by
            by_cases e:j = q
            ·subst e; rw [if_pos rfl,if_pos (by omega)]; exact HV.out.symm
            ·simp only [if_neg e]
             by_cases h1:j < q
             ·rw [if_pos h1,if_pos (by omega)]
             ·rw [if_neg h1,if_neg (by omega)])
          ·exact (show OnlyB hb w wr.drew from ⟨HO.out.os,HO.out.tape,HO.out.output,HO.out.size,HO.out.block⟩).setCell q _
         case measure => simp [intOf]; omega
        ·have HR2:Hid (RowW wr hb 177 8 (Sha.block v f)):=hr.congr (fun j hj => by rw [if_pos (by omega)])
         have hlt':¬ (q:Int) < 8:=by omega
         clear hr hcs ho HR HCs
         go_wp2
         exact bodyPost_end (results_none Tryz.results124 _ _ _) rfl ⟨rfl,HR2.out,HO.out⟩
end Go.Proofs.YtcpjeopnhgoonaaGreatDoor
