/-
  Texts of the proof, joined.
-/
import Derived.Test.YtcpjeopnhgoonaaGreatDoorF19
namespace Go.Proofs.YtcpjeopnhgoonaaGreatDoor
open Go.ChangeShapes Go.WideShapes Go.ChangeAt Go.RowKit
set_option linter.unusedVariables false
theorem Tryz.infoStrT:(Tryz.prog.info? 9).map (fun i => (i.zero,i.size,i.bytes)) = some (some (.string ⟨#[]⟩),1,16):=by kernel_rfl
theorem mkStrT (n:Nat) (hn:n≤1048576) (w:World):(Instr.makeSlice 22 (.int .i64 n) (.int .i64 n)).run Tryz.prog w = .ok (.slice (some ⟨w.heap.size,0,none⟩) n n) (w.alloc (.cells (madeCells #[.string ⟨#[]⟩] n) 9)) :=
 run_make_row' (P:=Tryz.prog) 22 9 (.string ⟨#[]⟩) 16 Tryz.underlying22 Tryz.infoStrT rfl .i64 .i64 n (by omega) (by omega) w
def pxV (s:ByteArray) (_:Nat):Value:=.string s
def pxF (f:Nat→ByteArray) (i j:Nat):Value:=pxV (f i) j
theorem infoPx:(Tryz.prog.info? 9).map (fun i => (i.zero,i.size,i.bytes)) = some (some (.string ⟨#[]⟩),1,16):=by kernel_rfl
set_option maxRecDepth 100000 in
theorem appPx (w:World) (B:Nat) (v:Value) (n q:Nat) (R:Nat→ByteArray) (x:ByteArray) (hB:B≤w.heap.size) (hn:n≤100000) (h:EO w B 9 1 v n (pxF R)) (hx:∀ j,j < 1→w.cell? ⟨q,0 + j,none⟩ = some (pxV x j)) :
  ∃ v' w',(∀ ty,(Builtin.append_ #[22,22] ty #[v,.slice (some ⟨q,0,none⟩) 1 1]).run Tryz.prog w = .ok v' w')∧EO w' B 9 1 v' (n + 1) (pxF (updE R n x))∧w.grownBy w' v.ownBlock∧(v'.ownBlock = v.ownBlock∨v'.ownBlock = some w.heap.size):=by
 obtain ⟨i,hi,hz,hsz,hby⟩:=info_parts infoPx
 obtain ⟨v',w',hr,ho,hg,_,hloc⟩:=run_append_own_at (P:=Tryz.prog) w B 22 22 9 i _ 1 16 Tryz.underlying22 hi hz hsz hby rfl (by decide) v n _ h ⟨q,0,none⟩ 1 1 ((List.range 1).map (pxV x)) (by simp) (fun j u hj => by
  rw [Go.WideShapes.add_plain]
  rw [List.getElem?_map,Option.map_eq_some_iff] at hj
  obtain ⟨b,hb,rfl⟩:=hj
  obtain ⟨hj',rfl⟩:=List.getElem?_eq_some_iff.1 hb
  rw [List.getElem_range]
  exact hx j (by simpa using hj')) (fun u hu => by
   obtain ⟨j,hj,rfl⟩:=List.mem_map.1 hu
   have:=List.mem_range.1 hj
   obtain rfl:j = 0:=by omega
   rfl) (by unfold maxLen; omega) (by omega) hB
 refine ⟨v',w',fun ty => hr,?_,hg,hloc⟩
 unfold EO
 rw [elv_snoc,elv_congr (G:=pxF R) (fun i hi j hj => by unfold pxF updE; rw [if_neg (by omega)])]
 have e:(List.range 1).map (pxF (updE R n x) n) = (List.range 1).map (pxV x):=by unfold pxF updE; simp
 rw [e]
 exact ho
def pcT (f:Nat→Nat) (n i:Nat):ByteArray:=kstr f (64 * i) (min (64 * i + 64) n - 64 * i)
theorem u8_elemG:Tryz.prog.elem 68 = 5:=by kernel_rfl
theorem u8_underG:Tryz.prog.underlying 68 = some (.slice (Tryz.prog.elem 68)):=by rw [u8_elemG]; exact Tryz.underlying68
theorem u8_sizeOfG (w:World):(sizeOf (Tryz.prog.elem 68)).run Tryz.prog w = .ok 1 w:=by kernel_rfl
theorem cut_g {b off n c:Nat} (p q:Nat) (h1:p < q) (h2:q≤n) (hc:n≤c) (w:World) :
  (Instr.slice 68 (.slice (some ⟨b,off,none⟩) n c) (some (.int .i64 (p:Int))) (some (.int .i64 (q:Int))) none).run Tryz.prog w = .ok (.slice (some ⟨b,off + p,none⟩) (q - p) (c - p)) w:=by
 rw [run_slice_lh (P:=Tryz.prog) (w:=w) 68 (some ⟨b,off,none⟩) n c u8_underG .i64 .i64 (p:Int) (q:Int) (by omega) (by omega) (by omega)]
 simp only [u8_sizeOfG,Result.andThen,sliced,Int.toNat_natCast]
 rw [if_neg (by omega)]
 simp [Go.WideShapes.add_plain]
theorem pc_conv {w:World} {b o n:Nat} {f:Nat→Nat} (h:Code8 w (some ⟨b,o,none⟩) n f) (k:Nat) (hk:64 * k < n) (p q m x:Nat) (hp:p = 64 * k) (hq:q = min (64 * k + 64) n) (hm:m = q - p) :
  (convert 68 9 (.slice (some ⟨b,o + p,none⟩) m x)).run Tryz.prog w = .ok (.string (pcT f n k)) w:=by
 subst hp hq hm
 have:=kstr_of_code (c:=x) ((h.shift (64 * k)).part (m:=min (64 * k + 64) n - 64 * k) (by omega))
 rw [this]
 unfold pcT
 rw [kstr_congr (o:=0) (p:=64 * k) (L:=f) (fun i hi => by rw [Nat.zero_add])]
set_option maxRecDepth 100000 in
set_option maxHeartbeats 2000000 in
theorem implCut_ok (b o n c:Nat) (f:Nat→Nat) (hn:n≤1024) (hc:n≤c) (w:World) (h:Code8 w (some ⟨b,o,none⟩) n f) :
  Calls Tryz.prog 43 #[.slice (some ⟨b,o,none⟩) n c] w fun e w' => (e = .returned (.tuple #[.slice (some ⟨w.heap.size,0,none⟩) (pcsN n) (pcsN n),.int .i64 0])∧w'.rowIs w.heap.size 9 (pcsN n) (fun i => .string (pcT f n i)))∧Below w.heap.size w w':=by
 have n0:¬ (65536:Int) < (n:Int):=by omega
 have PC:Hid (∀ w:World,Calls Tryz.prog 63 #[.int .i64 (n:Int)] w fun e w' => e = .returned (.tuple #[.int .i64 ((pcsN n:Nat):Int),.int .i64 0])∧w = w'):=fun w => implPc_ok n hn w
 have m1:=mkStrT (pcsN n) (by have:=pcsN_le hn; omega)
 have HC:Hid (Code8 w (some ⟨b,o,none⟩) n f):=h
 have HP:Hid (∀ k,k < pcsN n→64 * k < n):=fun k hk => by unfold pcsN at hk; omega
 have HL:Hid (pcsN n≤16):=pcsN_le hn
 clear h
 generalize pcsN n = N at *
 go_enter Tryz.func43,Tryz.ntmps43
 go_wp2_with fail
 refine (PC.out _).mono ?_
 rintro e _ ⟨rfl,rfl⟩
 clear PC
 go_wp2
 go_loopw [23] (fun i wr => ∃ k:Nat,k≤N∧i = .int .i64 k∧wr.rowIs w.heap.size 9 N (fun j => .string (if j < k then pcT f n j else ⟨#[]⟩))∧Below w.heap.size w wr) (fun i _ => N - (intOf i).toNat)
 case atStart =>
  refine ⟨0,by omega,rfl,?_,(Below.refl _ _).alloc (Nat.le_refl _) _⟩
  exact (World.rowIs_made w (.string ⟨#[]⟩) N 9).congr (fun j hj => by simp)
 case round =>
  obtain ⟨k,hk,rfl,hrow,hb⟩:=hrel
  have HR:Hid (wr.rowIs w.heap.size 9 N (fun j => .string (if j < k then pcT f n j else ⟨#[]⟩))):=hrow
  have HB:Hid (Below w.heap.size w wr):=hb
  by_cases hlt:k < N
  ·have hlt':(k:Int) < (N:Int):=by omega
   have h64:=HP.out k hlt
   have c2:=hrow.cell hlt
   have f2:=hrow.frozen k
   have e2:(if k < k then pcT f n k else (⟨#[]⟩:ByteArray)) = ⟨#[]⟩:=if_neg (by omega)
   rw [e2] at c2
   obtain ⟨p,hp⟩:∃ p,p = 64 * k:=⟨_,rfl⟩
   obtain ⟨q,hq⟩:∃ q,q = min (64 * k + 64) n:=⟨_,rfl⟩
   have ep:(k:Int) * 64 = (p:Int):=by omega
   have p0:(0:Int)≤(p:Int):=by omega
   have p1:(p:Int) < 1024:=by omega
   have CV:∀ x,(convert 68 9 (.slice (some ⟨b,o + p,none⟩) (q - p) x)).run Tryz.prog wr = .ok (.string (pcT f n k)) wr:=fun x => pc_conv (HC.out.below hb) k h64 p q (q - p) x hp hq rfl
   have SL:∀ w:World,(Instr.slice 68 (.slice (some ⟨b,o,none⟩) n c) (some (.int .i64 (p:Int))) (some (.int .i64 (q:Int))) none).run Tryz.prog w = .ok (.slice (some ⟨b,o + p,none⟩) (q - p) (c - p)) w:=fun w => cut_g p q (by omega) (by omega) hc w
   have mn:(if (p:Int) + 64 < (n:Int) then (p:Int) + 64 else (n:Int)) = (q:Int):=by split <;> omega
   have mn2:(if (p:Int) + 64≤(n:Int) then (p:Int) + 64 else (n:Int)) = (q:Int):=by split <;> omega
   have mn3:(if (n:Int) < (p:Int) + 64 then (n:Int) else (p:Int) + 64) = (q:Int):=by split <;> omega
   have mn4:min ((p:Int) + 64) (n:Int) = (q:Int):=by omega
   generalize hX:pcT f n k = X at *
   have HX:Hid (pcT f n k = X):=hX
   have HN1:Hid (k < N∧k≤N):=⟨hlt,hk⟩
   clear hrow hb e2 m1 hX hp hq h64 hn hc hlt hk
   go_wp2
   go_roundw
   case rel =>
    refine ⟨k + 1,HN1.out.1,by go_num,?_,HB.out.setCell (by simp) _⟩
    exact (HR.out.set k _).congr (fun j hj => by
     by_cases e:j = k
     ·subst e; simp [HX.out]
     ·simp only [if_neg e]
      by_cases g:j < k
      ·rw [if_pos g,if_pos (by omega)]
      ·rw [if_neg g,if_neg (by omega)])
   case measure => have:=HN1.out; simp [intOf]; omega
  ·obtain rfl:k = N:=by omega
   clear hrow hb m1
   go_wp2
   exact bodyPost_ret (results_tmp2 Tryz.results43 _ _ _) rfl ⟨⟨rfl,HR.out.congr (fun j hj => by rw [if_pos hj])⟩,HB.out⟩
set_option maxRecDepth 100000 in
set_option maxHeartbeats 2000000 in
theorem l12Cut_any (b o n c:Nat) (f:Nat→Nat) (hn:n≤1024) (hc:n≤c) (w:World) (h:Code8 w (some ⟨b,o,none⟩) n f) :
  Calls Tryz.prog 33 #[.slice (some ⟨b,o,none⟩) n c] w fun e w' => (∃ a' c',e = .returned (.slice a' (pcsN n) c')∧EO w' w.heap.size 9 1 (.slice a' (pcsN n) c') (pcsN n) (pxF (pcT f n)))∧Below w.heap.size w w':=by
 have HC:Hid (Code8 w (some ⟨b,o,none⟩) n f):=h
 have HP:Hid (∀ k,(k < pcsN n ↔ 64 * k < n)∧(k≤pcsN n→¬ k < pcsN n→k = pcsN n)):=fun k => ⟨by unfold pcsN; omega,by omega⟩
 have HL:Hid (pcsN n≤16):=pcsN_le hn
 clear h
 generalize pcsN n = N at *
 go_enter Tryz.func33,Tryz.ntmps33
 go_wp2
 go_loopw [3,4] (fun v i wr => ∃ (k c2:Nat) (a2:Option Addr),k≤N∧i = .int .i64 ((64 * k:Nat):Int)∧v = .slice a2 k c2∧EO wr w.heap.size 9 1 (.slice a2 k c2) k (pxF (pcT f n))∧Below w.heap.size w wr) (fun _ i _ => 2000 - (intOf i).toNat)
 case atStart => exact ⟨0,0,_,by omega,rfl,rfl,EO.lit _ _ _ _ (Nat.le_refl _) _,(Below.refl _ _).alloc (Nat.le_refl _) _⟩
 case round =>
  obtain ⟨k,c2,a2,hk,rfl,rfl,ho,hb⟩:=hrel
  have HB:Hid (Below w.heap.size w wr):=hb
  by_cases hlt:k < N
  ·have h64:=(HP.out k).1.1 hlt
   obtain ⟨p,hp⟩:∃ p,p = 64 * k:=⟨_,rfl⟩
   obtain ⟨q,hq⟩:∃ q,q = min (64 * k + 64) n:=⟨_,rfl⟩
   have CV:∀ x,(convert 68 9 (.slice (some ⟨b,o + p,none⟩) (q - p) x)).run Tryz.prog wr = .ok (.string (pcT f n k)) wr:=fun x => pc_conv (HC.out.below hb) k h64 p q (q - p) x hp hq rfl
   have SL:∀ w:World,(Instr.slice 68 (.slice (some ⟨b,o,none⟩) n c) (some (.int .i64 (p:Int))) (some (.int .i64 (q:Int))) none).run Tryz.prog w = .ok (.slice (some ⟨b,o + p,none⟩) (q - p) (c - p)) w:=fun w => cut_g p q (by omega) (by omega) hc w
   have mn:(if (n:Int) < (p:Int) + 64 then (n:Int) else (p:Int) + 64) = (q:Int):=by split <;> omega
   have mn2:(if (p:Int) + 64 < (n:Int) then (p:Int) + 64 else (n:Int)) = (q:Int):=by split <;> omega
   have hpn:(p:Int) < (n:Int):=by omega
   have p0:(0:Int)≤(p:Int):=by omega
   have p1:(p:Int) < 1024:=by omega
   have hb2:Below wr.heap.size wr (wr.alloc (.cells #[.string (pcT f n k)] 9)):=(Below.refl _ _).alloc (Nat.le_refl _) _
   obtain ⟨v',w3,hr,hap,hg,_⟩:=appPx (wr.alloc (.cells #[.string (pcT f n k)] 9)) w.heap.size _ k wr.heap.size (pcT f n) (pcT f n k) (by have:=hb.size; simp; omega) (by have:=HL.out; omega) (ho.below hb2) (fun j hj => by
    obtain rfl:j = 0:=by omega
    exact (World.rowIs_alloc wr #[.string (pcT f n k)] 9 (fun _ => .string (pcT f n k)) (fun i hi => by
     obtain rfl:i = 0:=by simpa using hi
     rfl)).cell (i:=0) (by omega))
   obtain ⟨a3,c3,rfl⟩:=hap.form
   have HA:Hid (EO w3 w.heap.size 9 1 (.slice a3 (k + 1) c3) (k + 1) (pxF (pcT f n))):=hap.congr (fun i hi j hj => by
    unfold pxF updE
    by_cases e:i = k
    ·subst e; rw [if_pos rfl]
    ·rw [if_neg e])
   have HB3:Hid (Below w.heap.size w w3):=hb.trans ((hb2.mono hb.size).trans (grown_below (EO.below ho hb2) hg (by have:=hb.size; simp; omega)))
   have e64:Hid ((64 * k:Nat) + 64 = (64 * (k + 1):Nat)):=by show _ = _; omega
   have HN1:Hid (k < N∧64 * k < n∧n≤1024):=⟨hlt,h64,hn⟩
   rw [← hp] at e64 ⊢
   generalize pcT f n k = X at *
   clear ho hb hp hq h64 hn hc hlt hk hap hg hb2
   go_wp2_with (at_builtin; refine Lib.wpList_append_run _ rfl (.tmp 12) (.tmp 22) 22 22 rfl (.slice a2 k c2) (.slice (some ⟨wr.heap.size,0,none⟩) 1 1) rfl rfl _ _ (hr _) ?_)
   go_roundw
   case rel =>
    refine ⟨k + 1,c3,a3,HN1.out.1,?_,rfl,HA.out,HB3.out⟩
    have:=e64.out
    exact numEqS (by omega)
   case measure => have:=HN1.out; have:=e64.out; simp [intOf]; omega
  ·obtain rfl:k = N:=by omega
   have x0:¬ ((64 * k:Nat):Int) < (n:Int):=by
    have:=(HP.out k).1
    omega
   have HA:Hid (EO wr w.heap.size 9 1 (.slice a2 k c2) k (pxF (pcT f n))):=ho
   clear ho hb hk hlt
   generalize ((64 * k:Nat):Int) = Z at *
   go_wp2
   go_ret
   exact ⟨⟨a2,c2,rfl,HA.out⟩,HB.out⟩
end Go.Proofs.YtcpjeopnhgoonaaGreatDoor
