/-
  Texts of the proof, joined.
-/
import Derived.Test.YtcpjeopnhgoonaaGreatDoorF16
import Derived.Laws.IdiomStrings
import Derived.Deep.AppendLies
import Derived.Laws.DeepStrings4
namespace Go.Proofs.YtcpjeopnhgoonaaGreatDoor
open Go.ChangeShapes Go.WideShapes Go.ChangeAt Go.RowKit
set_option linter.unusedVariables false
theorem Tryz.info3:(Tryz.prog.info? 3).map (fun i => (i.zero,i.size,i.bytes)) = some (some (.int .i64 0),1,8):=by kernel_rfl
theorem makeInts (n:Nat) (hn:n≤100000) (w:World):(Instr.makeSlice 71 (.int .i64 (n:Int)) (.int .i64 (n:Int))).run Tryz.prog w = .ok (.slice (some ⟨w.heap.size,0,none⟩) n n) (w.alloc (.cells (madeCells #[.int .i64 0] n) 3)) :=
 run_make_row' 71 3 (.int .i64 0) 8 Tryz.underlying71 Tryz.info3 rfl .i64 .i64 n (by omega) (by omega) w
theorem make255 (w:World):(Instr.makeSlice 71 (.int .i64 255) (.int .i64 255)).run Tryz.prog w = .ok (.slice (some ⟨w.heap.size,0,none⟩) 255 255) (w.alloc (.cells (madeCells #[.int .i64 0] 255) 3)):=makeInts 255 (by omega) w
theorem make256 (w:World):(Instr.makeSlice 71 (.int .i64 256) (.int .i64 256)).run Tryz.prog w = .ok (.slice (some ⟨w.heap.size,0,none⟩) 256 256) (w.alloc (.cells (madeCells #[.int .i64 0] 256) 3)):=makeInts 256 (by omega) w
theorem l01Double_any (a:Nat) (h1:a < 256) (w:World) :
  Calls Tryz.prog 159 #[.int .i64 a] w fun e w' => e = .returned (.int .i64 (Gf.dbl a:Nat))∧w' = w:=by
 by_cases h:(255:Int) < a * 2
 ·have E:Hid (bits BinOp.xor IntKind.i64 ((a:Int) * 2) 283 = ((Gf.dbl a:Nat):Int)):=dbl_yes a h1 h
  go_enter Tryz.func159,Tryz.ntmps159
  go_wp2
  go_ret
  exact ⟨ret_int E.out,rfl⟩
 ·have E:Hid ((a:Int) * 2 = ((Gf.dbl a:Nat):Int)):=dbl_no a (by omega)
  go_enter Tryz.func159,Tryz.ntmps159
  go_wp2
  go_ret
  exact ⟨ret_int E.out,rfl⟩
theorem val_eq {k:IntKind} {a b:Nat} (h:a = b):Value.int k (a:Int) = .int k (b:Int):=by rw [h]
set_option maxRecDepth 100000 in
set_option maxHeartbeats 1000000 in
theorem table_any (w:World) :
  Calls Tryz.prog 120 #[] w fun e w' => (∃ b,w.heap.size≤b∧e = .returned (.slice (some ⟨b,0,none⟩) 256 256)∧w'.rowIs b 3 256 (fun j => .int .i64 (Gf.sub j:Nat)))∧Below w.heap.size w w':=by
 have m1:=make255
 have m2:=make256
 go_enter Tryz.func120,Tryz.ntmps120
 go_wp2
 go_loopw [2,3] (fun x i wr => ∃ k:Nat,k≤255∧i = .int .i64 k∧x = .int .i64 (Gf.pw k:Nat)∧wr.rowIs w.heap.size 3 255 (fun j => .int .i64 ((if j < k then Gf.pw j else 0:Nat):Int))∧Below w.heap.size w wr∧wr.heap.size = w.heap.size + 1) (fun _ i _ => 255 - (intOf i).toNat)
 case atStart =>
  refine ⟨0,by omega,rfl,rfl,?_,(Below.refl _ _).alloc (Nat.le_refl _) _,by simp⟩
  exact (World.rowIs_made w (.int .i64 0) 255 3).congr (fun j hj => by simp)
 case round =>
  obtain ⟨k,hk,rfl,rfl,hrow,hb,hsz⟩:=hrel
  have HR:Hid (wr.rowIs w.heap.size 3 255 (fun j => .int .i64 ((if j < k then Gf.pw j else 0:Nat):Int))):=hrow
  have HB:Hid (Below w.heap.size w wr):=hb
  have HS:Hid (wr.heap.size = w.heap.size + 1):=hsz
  have hp:=Gf.pw_lt k
  have E:Hid (bits BinOp.xor IntKind.i64 (Gf.pw k:Int) (Gf.dbl (Gf.pw k):Int) = ((Gf.pw (k + 1):Nat):Int)):=i64_xor_nat _ _ (by omega) (by have:=Gf.dbl_lt _ hp; omega)
  by_cases hlt:k < 255
  ·have c1:=hrow.cell hlt
   have f1:=hrow.frozen k
   clear hrow hb hsz
   go_wp2_with (go_at_call 159; refine (l01Double_any _ hp _).mono ?_; rintro e w' ⟨rfl,rfl⟩)
   go_roundw
   case rel =>
    refine ⟨k + 1,by omega,by go_num,val_int E.out,?_,HB.out.setCell (by exact Nat.le_refl _) _,by simpa using HS.out⟩
    exact (HR.out.set k _).congr (fun j hj => by
     by_cases e:j = k
     ·subst e; simp
     ·simp only [if_neg e]; exact val_eq (by by_cases g:j < k <;> simp [g] <;> omega))
   case measure => simp [intOf]; omega
  ·have hrow':wr.rowIs w.heap.size 3 255 (fun j => .int .i64 (Gf.pw j:Nat)):=hrow.congr (fun j hj => val_eq (by rw [if_pos (by omega)]))
   have HR':Hid (wr.rowIs w.heap.size 3 255 (fun j => .int .i64 (Gf.pw j:Nat))):=hrow'
   clear hrow hrow' HR hb E hp
   have K1:Hid ((wr.alloc (Obj.cells ((madeCells #[.int .i64 0] 256).setIfInBounds 0 (.int .i64 99)) 3)).rowIs (w.heap.size + 1) 3 256 (fun j => .int .i64 (Gf.tabTo 0 j:Nat))):=by
    have h:=World.rowIs_alloc wr ((madeCells #[.int .i64 0] 256).setIfInBounds 0 (.int .i64 99)) 3 (fun j => .int .i64 (Gf.tabTo 0 j:Nat)) (fun j hj => by
     have hj':j < 256:=by simpa [size_madeCells] using hj
     rw [Array.getElem?_setIfInBounds]
     by_cases e:j = 0
     ·subst e; simp [size_madeCells,Gf.tabTo]
     ·rw [if_neg (fun h => e h.symm)]
      simp [madeCells,hj',Nat.mod_one,Gf.tabTo,e])
    rw [HS.out] at h
    exact (by simpa [size_madeCells] using h:World.rowIs _ _ _ _ _)
   have K2:Hid ((wr.alloc (Obj.cells ((madeCells #[.int .i64 0] 256).setIfInBounds 0 (.int .i64 99)) 3)).rowIs w.heap.size 3 255 (fun j => .int .i64 (Gf.pw j:Nat))):=HR'.out.alloc _
   have K3:Hid (Below w.heap.size w (wr.alloc (Obj.cells ((madeCells #[.int .i64 0] 256).setIfInBounds 0 (.int .i64 99)) 3))):=HB.out.alloc (by rw [HS.out]; omega) _
   have mc0:(madeCells #[Value.int IntKind.i64 0] 256)[0]? = some (.int .i64 0):=by simp [madeCells]
   go_wp2
   clear mc0
   generalize wr.alloc (Obj.cells ((madeCells #[.int .i64 0] 256).setIfInBounds 0 (.int .i64 99)) 3) = wz at *
   generalize Gf.pw k = V
   generalize (k:Int) = kk
   clear HR' HB HS hsz wr
   go_loopw [5] (fun i wq => ∃ k:Nat,k≤255∧i = .int .i64 k∧wq.rowIs w.heap.size 3 255 (fun j => .int .i64 (Gf.pw j:Nat))∧wq.rowIs (w.heap.size + 1) 3 256 (fun j => .int .i64 (Gf.tabTo k j:Nat))∧Below w.heap.size w wq) (fun i _ => 255 - (intOf i).toNat)
   case atStart => exact ⟨0,by omega,rfl,K2.out,K1.out,K3.out⟩
   case round =>
    obtain ⟨k,hk,rfl,hrow1,hrow2,hb⟩:=hrel
    have H1:Hid (wr.rowIs w.heap.size 3 255 (fun j => .int .i64 (Gf.pw j:Nat))):=hrow1
    have H2:Hid (wr.rowIs (w.heap.size + 1) 3 256 (fun j => .int .i64 (Gf.tabTo k j:Nat))):=hrow2
    have HB:Hid (Below w.heap.size w wr):=hb
    by_cases hlt:k < 255
    ·have hp:=Gf.pw_lt k
     have hq:=Gf.pw_lt ((255 - k) % 255)
     have c1:=hrow1.cell hlt
     have hm:(255 - k) % 255 < 255:=Nat.mod_lt _ (by omega)
     have c2:=hrow1.cell hm
     have c3:=hrow2.cell hp
     have f3:=hrow2.frozen (Gf.pw k)
     have ew:IntKind.i64.wrap (255 - (k:Int)) = ((255 - k:Nat):Int):=by
      rw [show 255 - (k:Int) = ((255 - k:Nat):Int) from by omega]
      exact IntWalk.i64_in _ ⟨by omega,by omega⟩
     have et:((255 - k:Nat):Int).tmod 255 = (((255 - k) % 255:Nat):Int):=(Int.ofNat_tmod (255 - k) 255).symm
     have hp':(Gf.pw k:Int) < 256:=by omega
     have hm':(((255 - k) % 255:Nat):Int) < 255:=by omega
     have E:Hid (∀ j,Gf.tabTo (k + 1) j = if j = Gf.pw k then Gf.spread (Gf.pw ((255 - k) % 255)) else Gf.tabTo k j):=fun j => rfl
     clear hrow1 hrow2 hb K1 K2 K3
     generalize (255 - k) % 255 = M at *
     generalize 255 - k = N at *
     generalize Gf.pw k = P at *
     generalize Gf.pw M = R at *
     go_wp2
     go_region_held3 (fun w' => w'.cell? ⟨w.heap.size,k,none⟩ = some (.int .i64 P)∧w'.cell? ⟨w.heap.size,M,none⟩ = some (.int .i64 R)∧w'.frozen? ⟨w.heap.size + 1,P,none⟩ = false) (simp [go_sem, *]) ((go_at_call 160; refine (affine_any R hq _).mono ?_; rintro e w' ⟨rfl,rfl⟩))
     go_wp2
     go_roundw
     case rel =>
      refine ⟨k + 1,by omega,by go_num,(H1.out.setOther (by simp) _).drew,?_,(HB.out.setCell (by simp) _).drew⟩
      exact ((H2.out.set P _).drew).congr (fun j hj => by
       rw [E.out j]
       by_cases e:j = P
       ·simp [e]
       ·simp [e])
     case measure => simp [intOf]; omega
    ·obtain rfl:k = 255:=by omega
     clear hrow1 hrow2 hb K1 K2 K3
     go_wp2
     go_ret
     exact ⟨⟨w.heap.size + 1,by omega,rfl,H2.out.congr (fun j hj => val_eq (Gf.tab_last j hj))⟩,HB.out⟩
theorem Tryz.infoS:(Tryz.prog.info? 9).map (fun i => (i.zero,i.size,i.bytes)) = some (some (.string ⟨#[]⟩),1,16):=by kernel_rfl
theorem cellBlockK {w:World} {p:Addr} {v:Value} (h:w.cell? p = some v):p.block < w.heap.size:=by
 rcases Nat.lt_or_ge p.block w.heap.size with g | g
 ·exact g
 ·simp [World.cell?,Array.getElem?_eq_none g] at h
theorem owned_open {w:World} {base:Nat} {e:TypeId} {v:Value} {n:Nat} {f:Nat→Value} (h:w.ownsRow base e 1 v n ((List.range n).map f)) (hn:0 < n) :
  ∃ g cap,base≤g∧g < w.heap.size∧v = .slice (some ⟨g,0,none⟩) n cap∧∀ i,i < n→w.cell? ⟨g,i,none⟩ = some (f i):=by
 obtain ⟨hl,⟨rfl,rfl⟩ | ⟨gb,cap,cur,rfl,hb,hh,hn',hm,hs,ht⟩⟩:=h
 ·omega
 ·refine ⟨gb,cap,hb,?_,rfl,fun i hi => ?_⟩
  ·rcases Nat.lt_or_ge gb w.heap.size with g | g
   ·exact g
   ·rw [Array.getElem?_eq_none g] at hh; cases hh
  ·have h1:(cur.toList.take (n * 1))[i]? = some (f i):=by rw [ht]; simp [hi]
   rw [List.getElem?_take,if_pos (by omega)] at h1
   simp only [World.cell?,hh]
   simpa using h1
theorem ownsRow_below {w w':World} {base:Nat} {e:TypeId} {size:Nat} {v:Value} {n:Nat} {xs:List Value} (h:w.ownsRow base e size v n xs) (hb:Below w.heap.size w w'):w'.ownsRow base e size v n xs:=by
 obtain ⟨hl,h0 | ⟨g,cap,cur,hv,h1,hh,h2⟩⟩:=h
 ·exact ⟨hl,.inl h0⟩
 ·refine ⟨hl,.inr ⟨g,cap,cur,hv,h1,?_,h2⟩⟩
  rw [hb.block g ?_]
  ·exact hh
  ·rcases Nat.lt_or_ge g w.heap.size with k | k
   ·exact k
   ·rw [Array.getElem?_eq_none k] at hh; cases hh
theorem numEqK {k:IntKind} {a b:Int} (h:a = b):Value.int k a = .int k b:=by rw [h]
theorem u8in (n:Nat) (h:n < 256):IntKind.u8.wrap (n:Int) = n:=IntWalk.u8_in _ ⟨by omega,by omega⟩
def ksVals (K:Nat→Nat) (m:Nat):List Value:=(List.range m).map fun j => .string (kstr K (j * 16) 16)
theorem sliceKey (s:ByteArray) (k:Nat) (h:k * 4 + 4≤s.size) (w:World):(Instr.slice 9 (.string s) (some (.int .i64 (4 * (k:Int)))) (some (.int .i64 (4 * (k:Int) + 4))) none).run Tryz.prog w = .ok (.string (s.extract (k * 4) (k * 4 + 4))) w:=by
 rw [run_slice_string_if w 9 s .i64 .i64 _ _ Tryz.underlying9,if_pos (by omega),if_pos (by omega)]
 rw [show (4 * (k:Int)).toNat = k * 4 from by omega,show (4 * (k:Int) + 4).toNat = k * 4 + 4 from by omega]
def B4 (w:World) (L:Nat) (T:Nat→Nat):Prop:=∀ r,r < 4→w.cell? ⟨L,r,none⟩ = some (.int .u8 (T r:Nat))∧w.frozen? ⟨L,r,none⟩ = false
theorem B4.congr {w:World} {L:Nat} {T U:Nat→Nat} (h:B4 w L T) (e:∀ r,r < 4→T r = U r):B4 w L U:=fun r hr => by rw [← e r hr]; exact h r hr
theorem B4.drew {w:World} {L:Nat} {T:Nat→Nat} (h:B4 w L T):B4 w.drew L T:=h
theorem B4.set {w:World} {L:Nat} {T:Nat→Nat} (h:B4 w L T) (i v:Nat):B4 (w.setCell ⟨L,i,none⟩ (.int .u8 (v:Nat))) L (fun r => if r = i then v else T r):=fun r hr => by
 have hr':=h r hr
 refine ⟨?_,by rw [World.frozen?_setCell]; exact hr'.2⟩
 by_cases e:r = i
 ·subst e
  simp only [if_true]
  exact World.cell?_setCell_same _ _ _ hr'.1
 ·simp only [if_neg e]
  rw [← hr'.1]
  exact World.cell?_setCell_other _ _ _ _ (by intro h; cases h; exact e rfl)
theorem bytes_new (w:World) (S:ByteArray) (c:Nat) (t:TypeId) (T:Nat→Nat) (hS:S.size = 4) (hT:∀ r (h:r < S.size),(S[r].toNat:Int) = (T r:Nat)) :
  B4 (w.alloc (.cells (bytesRow S c) t ((bytesRow S c).size,(bytesRow S c).size + 1))) w.heap.size T:=fun r hr => by
 have hd:r < S.data.size:=by have:S.data.size = 4:=hS; omega
 have hrow:=bytesRow_at S c r hd
 have hlt:r < (bytesRow S c).size:=by
  rcases Nat.lt_or_ge r (bytesRow S c).size with h | h
  ·exact h
  ·rw [Array.getElem?_eq_none h] at hrow; cases hrow
 refine ⟨?_,?_⟩
 ·rw [World.cell?_alloc_mark,hrow]
  have:=hT r (by omega)
  rw [ByteArray.getElem_eq_getElem_data] at this
  rw [this]
 ·rw [World.frozen?_alloc_mark]
  simp
  intro h
  omega
theorem one_newK (w:World) (v:Value) (t:TypeId):∀ j u,[v][j]? = some u→(w.alloc (.cells #[v] t)).cell? ((⟨w.heap.size,0,none⟩:Addr).add j) = some u:=fun j u hj => by
 match j,hj with
 | 0,hj =>
  have e:v = u:=by simpa using hj
  subst e
  simp [Addr.add]
theorem one_oneK (v:Value) (h:v.oneCell' = true):∀ u ∈ [v],u.oneCell' = true:=fun u hu => by
 rw [List.mem_singleton] at hu; rw [hu]; exact h
set_option maxRecDepth 100000 in
set_option maxHeartbeats 4000000 in
theorem l01Keys_any (s:ByteArray) (n:Nat) (hn:n = 4∨n = 8) (hs:s.size = n * 4) (b:Nat) (w:World) (hr:w.rowIs b 3 256 (fun j => .int .i64 (Gf.sub j:Nat))) :
  Calls Tryz.prog 121 #[.string s,.slice (some ⟨b,0,none⟩) 256 256] w fun e w' => (∃ v,e = .returned v∧w'.ownsRow w.heap.size 9 1 v (n + 7) (ksVals (Gf.ws (strB s) n (3 * n + 28)) (n + 7)))∧Below w.heap.size w w':=by
 have lw:∀ j,Gf.ws (strB s) n (3 * n + 28) j < 256:=Gf.ws_lt (strB_lt s) _
 have LW:Hid (∀ j,Gf.ws (strB s) n (3 * n + 28) j < 256):=lw
 have REC:Hid (∀ I r,n≤I→I < 4 * n + 28→r < 4→Gf.ws (strB s) n (3 * n + 28) (I * 4 + r) = Gf.ws (strB s) n (3 * n + 28) ((I - n) * 4 + r) ^^^ Gf.kt n (fun r => Gf.ws (strB s) n (3 * n + 28) ((I - 1) * 4 + r)) I r):=fun I r h1 h2 h3 => Gf.ws_rec (by omega) I r h1 (by omega) h3
 have KEY:Hid (∀ k,k < n→s.extract (k * 4) (k * 4 + 4) = kstr (Gf.ws (strB s) n (3 * n + 28)) (k * 4) 4):=fun k hk => by
  rw [kstr_extract s (k * 4) 4 (by omega)]
  exact kstr_congr (fun i hi => (Gf.ws_key _ _ (by omega)).symm)
 clear lw
 generalize Gf.ws (strB s) n (3 * n + 28) = W at *
 have HR:Hid (w.rowIs b 3 256 (fun j => .int .i64 (Gf.sub j:Nat))):=hr
 obtain ⟨i0,hi,hz0,hz1,hz2⟩:=info_parts Tryz.infoS
 have HI:Hid (Tryz.prog.info? 9 = some i0∧i0.zero = some (.string ⟨#[]⟩)∧i0.size = 1∧i0.bytes = 16):=⟨hi,hz0,hz1,hz2⟩
 have hs':Hid (s.size = n * 4):=hs
 have hse:(s.size:Int) / 4 = n:=by omega
 have q1:IntKind.i64.wrap (n:Int) = n:=IntWalk.i64_in _ ⟨by omega,by omega⟩
 clear hi hz0 hz1 hz2 hr
 go_enter Tryz.func121,Tryz.ntmps121
 go_wp2
 go_loopw [6,7] (fun v i wr => ∃ k:Nat,k≤n∧i = .int .i64 k∧wr.ownsRow w.heap.size 9 1 v k ((List.range k).map fun j => .string (kstr W (j * 4) 4))∧Below w.heap.size w wr) (fun _ i _ => n - (intOf i).toNat)
 case atStart =>
  refine ⟨0,by omega,rfl,?_,(Below.refl _ _).alloc (Nat.le_refl _) _⟩
  exact ⟨rfl,.inr ⟨w.heap.size,0,#[],rfl,Nat.le_refl _,Deep.blk_alloc_new _ _,Nat.le_refl _,by simp [maxLen],rfl,rfl⟩⟩
 case round =>
  obtain ⟨k,hk,rfl,hown,hb⟩:=hrel
  have HO:Hid (wr.ownsRow w.heap.size 9 1 u6 k ((List.range k).map fun j => .string (kstr W (j * 4) 4))):=hown
  have HB:Hid (Below w.heap.size w wr):=hb
  clear hown hb
  by_cases hlt:k < n
  ·have hsl:∀ wx:World,(Instr.slice 9 (.string s) (some (.int .i64 (4 * (k:Int)))) (some (.int .i64 (4 * (k:Int) + 4))) none).run Tryz.prog wx = .ok (.string (kstr W (k * 4) 4)) wx:=fun wx => by
    rw [← KEY.out k hlt]; exact sliceKey s k (by have:=hs'.out; omega) wx
   have hsz:=HB.out.size
   clear hse q1
   go_wp2_with (at_builtin; refine wpList_append_own _ rfl _ _ 22 rfl w.heap.size 9 i0 (.string ⟨#[]⟩) 1 16 Tryz.underlying22 HI.out.1 HI.out.2.1 HI.out.2.2.1 HI.out.2.2.2 rfl (by decide) u6 k _ rfl (HO.out.alloc _) ⟨wr.heap.size,0,none⟩ 1 1 [.string (kstr W (k * 4) 4)] rfl rfl (one_newK _ _ _) (one_oneK _ rfl) (by unfold maxLen; omega) (by omega) (by simp; omega) ?_)
   intro v' w1 hown' hgrow _
   have HO1:Hid (w1.ownsRow w.heap.size 9 1 v' (k + 1) ((List.range (k + 1)).map fun j => .string (kstr W (j * 4) 4))):=by
    rw [List.range_succ,List.map_append]; exact hown'
   have HB1:Hid (Below w.heap.size w w1):=(HB.out.alloc hsz _).grown hgrow (by simp; omega) (fun b hb => (HO.out.lt b hb).1)
   clear hown' hgrow hsz HO HB
   go_wp2
   go_roundw
   case rel => exact ⟨k + 1,by omega,by go_num,HO1.out,HB1.out⟩
   case measure => simp [intOf]; omega
  ·obtain rfl:k = n:=by omega
   clear hlt hk
   go_wp2
   go_loopw [6,8,9] (fun v f i wr => ∃ I:Nat,k≤I∧I≤4 * k + 28∧i = .int .i64 I∧f = .int .i64 (Gf.pows ((I - 1) / k):Nat)∧wr.ownsRow w.heap.size 9 1 v I ((List.range I).map fun j => .string (kstr W (j * 4) 4))∧Below w.heap.size w wr) (fun _ _ i _ => 4 * k + 28 - (intOf i).toNat)
   case atStart =>
    refine ⟨k,Nat.le_refl _,by omega,rfl,?_,HO.out,HB.out⟩
    rw [Nat.div_eq_of_lt (by omega)]; rfl
   case round =>
    clear HO HB
    obtain ⟨wo,hwo⟩:∃ wo,wo = wr:=⟨_,rfl⟩
    subst hwo
    obtain ⟨I,hI1,hI2,rfl,rfl,hown,hb⟩:=hrel
    have HO:Hid (wo.ownsRow w.heap.size 9 1 u6 I ((List.range I).map fun j => .string (kstr W (j * 4) 4))):=hown
    have HB:Hid (Below w.heap.size w wo):=hb
    clear hown hb
    by_cases hI:I < 4 * k + 28
    ·obtain ⟨g,cap,hg1,hg2,rfl,hcell⟩:=owned_open HO.out (by omega)
     have HC:Hid (∀ i,i < I→wo.cell? ⟨g,i,none⟩ = some (.string (kstr W (i * 4) 4))):=hcell
     have c0:=hcell (I - 1) (by omega)
     have TB:Hid (∀ j,j < 256→wo.cell? ⟨b,j,none⟩ = some (.int .i64 (Gf.sub j:Nat))):=fun j hj => by
      rw [HB.out.cell (p:=⟨b,j,none⟩) HR.out.lt]; exact HR.out.cell hj
     have hsz:=HB.out.size
     clear hcell
     have e0:(I:Int) - 1 = ((I - 1:Nat):Int):=by omega
     have e1:((I - 1:Nat):Int) < I:=by omega
     have hcv:=fun c:Nat => run_bytes_of_string wo 9 68 5 (kstr W ((I - 1) * 4) 4) Tryz.underlying9 Tryz.underlying68 Tryz.underlying5
     replace hcv:=hcv 0
     rw [kstr_size] at hcv
     generalize hS:kstr W ((I - 1) * 4) 4 = S at *
     go_upto_if 51 with fail
     have L0:Hid (∀ r (h:r < S.size),(S[r].toNat:Int) = (W ((I - 1) * 4 + r):Nat)):=fun r h => by subst hS; exact kstr_get W _ 4 r (LW.out _) h
     have N0:Hid (B4 (wo.alloc (.cells (bytesRow S (grownCap wo 4 0 5)) 5 ((bytesRow S (grownCap wo 4 0 5)).size,(bytesRow S (grownCap wo 4 0 5)).size + 1))).drew wo.heap.size (fun r => W ((I - 1) * 4 + r))):=bytes_new wo S _ _ _ (by subst hS; exact kstr_size _ _ _) L0.out
     have N1:Hid (Below wo.heap.size wo (wo.alloc (.cells (bytesRow S (grownCap wo 4 0 5)) 5 ((bytesRow S (grownCap wo 4 0 5)).size,(bytesRow S (grownCap wo 4 0 5)).size + 1))).drew):=((Below.refl _ _).alloc (Nat.le_refl _) _).drew
     have N2:wo.heap.size < (wo.alloc (.cells (bytesRow S (grownCap wo 4 0 5)) 5 ((bytesRow S (grownCap wo 4 0 5)).size,(bytesRow S (grownCap wo 4 0 5)).size + 1))).drew.heap.size:=by simp
     clear hcv L0
     generalize (wo.alloc (.cells (bytesRow S (grownCap wo 4 0 5)) 5 ((bytesRow S (grownCap wo 4 0 5)).size,(bytesRow S (grownCap wo 4 0 5)).size + 1))).drew = w1 at *
     generalize grownCap wo 4 0 5 = gc at *
     clear hS c0 e0 e1
     have T1:Hid (∀ j,j < 256→w1.cell? ⟨b,j,none⟩ = some (.int .i64 (Gf.sub j:Nat))):=fun j hj => by
      rw [N1.out.cell (p:=⟨b,j,none⟩) (cellBlockK (TB.out j hj))]; exact TB.out j hj
     go_cut [8,10] (fun f v wx => ∃ L c,wo.heap.size≤L∧L < wx.heap.size∧v = .slice (some ⟨L,0,none⟩) 4 c∧f = .int .i64 (Gf.pows (I / k):Nat)∧B4 wx L (fun r => Gf.kt k (fun r => W ((I - 1) * 4 + r)) I r)∧Below wo.heap.size wo wx)
     case first =>
      have l0:=LW.out ((I - 1) * 4 + 0)
      have l1:=LW.out ((I - 1) * 4 + 1)
      have l2:=LW.out ((I - 1) * 4 + 2)
      have l3:=LW.out ((I - 1) * 4 + 3)
      have PW:Hid (I % k = 0→Gf.pows (I / k) = Gf.dbl (Gf.pows ((I - 1) / k))∧(I - 1) / k = I / k - 1):=fun h => by
       have e:I / k = (I - 1) / k + 1:=by rcases hn with rfl | rfl <;> omega
       rw [e]; exact ⟨rfl,(Nat.add_sub_cancel _ _).symm⟩
      have PW':Hid (I % k≠0→Gf.pows (I / k) = Gf.pows ((I - 1) / k)):=fun h => by
       have e:I / k = (I - 1) / k:=by rcases hn with rfl | rfl <;> omega
       rw [e]
      have lp:=Gf.pows_lt ((I - 1) / k)
      by_cases hA:I % k = 0
      ·have em:((I:Int).tmod (k:Int) == 0) = true:=by rw [← Int.ofNat_tmod,hA]; rfl
       have n0:w1.cell? ⟨wo.heap.size,0,none⟩ = some (.int .u8 (W ((I - 1) * 4 + 0):Nat)):=(N0.out 0 (by omega)).1
       have n1:w1.cell? ⟨wo.heap.size,1,none⟩ = some (.int .u8 (W ((I - 1) * 4 + 1):Nat)):=(N0.out 1 (by omega)).1
       have n2:w1.cell? ⟨wo.heap.size,2,none⟩ = some (.int .u8 (W ((I - 1) * 4 + 2):Nat)):=(N0.out 2 (by omega)).1
       have n3:w1.cell? ⟨wo.heap.size,3,none⟩ = some (.int .u8 (W ((I - 1) * 4 + 3):Nat)):=(N0.out 3 (by omega)).1
       have m0:=T1.out _ l0
       have m1:=T1.out _ l1
       have m2:=T1.out _ l2
       have m3:=T1.out _ l3
       have KT:Hid (∀ r,Gf.kt k (fun r => W ((I - 1) * 4 + r)) I r = if r = 0 then Gf.sub (W ((I - 1) * 4 + 1)) ^^^ Gf.pows ((I - 1) / k) else Gf.sub (W ((I - 1) * 4 + (r + 1) % 4))):=fun r => by
        rw [Gf.kt,if_pos hA,(PW.out hA).2]
       have PE:=(PW.out hA).1
       have HPE:Hid (Gf.pows (I / k) = Gf.dbl (Gf.pows ((I - 1) / k))):=PE
       clear PE
       have s0:=Gf.sub_lt _ l0
       have s1:=Gf.sub_lt _ l1
       have s2:=Gf.sub_lt _ l2
       have s3:=Gf.sub_lt _ l3
       generalize Gf.pows ((I - 1) / k) = P at *
       have y0:IntKind.u8.wrap (Gf.sub (W ((I - 1) * 4 + 0)):Int) = (Gf.sub (W ((I - 1) * 4 + 0)):Int):=u8in _ s0
       have y1:IntKind.u8.wrap (Gf.sub (W ((I - 1) * 4 + 1)):Int) = (Gf.sub (W ((I - 1) * 4 + 1)):Int):=u8in _ s1
       have y2:IntKind.u8.wrap (Gf.sub (W ((I - 1) * 4 + 2)):Int) = (Gf.sub (W ((I - 1) * 4 + 2)):Int):=u8in _ s2
       have y3:IntKind.u8.wrap (Gf.sub (W ((I - 1) * 4 + 3)):Int) = (Gf.sub (W ((I - 1) * 4 + 3)):Int):=u8in _ s3
       have y4:IntKind.u8.wrap (P:Int) = (P:Int):=u8in _ lp
       have ex:bits .xor .u8 (Gf.sub (W ((I - 1) * 4 + 1)):Int) (P:Int) = ((Gf.sub (W ((I - 1) * 4 + 1)) ^^^ P:Nat):Int):=u8_xor_nat _ _ s1 lp
       generalize hX0:Gf.sub (W ((I - 1) * 4 + 0)) = X0 at *
       generalize hX1:Gf.sub (W ((I - 1) * 4 + 1)) = X1 at *
       generalize hX2:Gf.sub (W ((I - 1) * 4 + 2)) = X2 at *
       generalize hX3:Gf.sub (W ((I - 1) * 4 + 3)) = X3 at *
       have HX:Hid (Gf.sub (W ((I - 1) * 4 + 0)) = X0∧Gf.sub (W ((I - 1) * 4 + 1)) = X1∧Gf.sub (W ((I - 1) * 4 + 2)) = X2∧Gf.sub (W ((I - 1) * 4 + 3)) = X3):=⟨hX0,hX1,hX2,hX3⟩
       clear hX0 hX1 hX2 hX3
       generalize W ((I - 1) * 4 + 0) = a0 at n0 m0 l0
       generalize W ((I - 1) * 4 + 1) = a1 at n1 m1 l1
       generalize W ((I - 1) * 4 + 2) = a2 at n2 m2 l2
       generalize W ((I - 1) * 4 + 3) = a3 at n3 m3 l3
       have i0:(a0:Int) < 256:=by omega
       have j0:(0:Int)≤(a0:Int):=by omega
       have i1:(a1:Int) < 256:=by omega
       have j1:(0:Int)≤(a1:Int):=by omega
       have i2:(a2:Int) < 256:=by omega
       have j2:(0:Int)≤(a2:Int):=by omega
       have i3:(a3:Int) < 256:=by omega
       have j3:(0:Int)≤(a3:Int):=by omega
       go_wp2_with fail
       go_region_held3 (fun w' => w'.cell? ⟨wo.heap.size,0,none⟩ = some (.int .u8 (a0:Nat))∧w'.cell? ⟨wo.heap.size,1,none⟩ = some (.int .u8 (a1:Nat))∧w'.cell? ⟨wo.heap.size,2,none⟩ = some (.int .u8 (a2:Nat))∧w'.cell? ⟨wo.heap.size,3,none⟩ = some (.int .u8 (a3:Nat))∧w'.cell? ⟨b,a0,none⟩ = some (.int .i64 (X0:Nat))∧w'.cell? ⟨b,a1,none⟩ = some (.int .i64 (X1:Nat))∧w'.cell? ⟨b,a2,none⟩ = some (.int .i64 (X2:Nat))∧w'.cell? ⟨b,a3,none⟩ = some (.int .i64 (X3:Nat))) (go_keep) (fail)
       go_wp2_with (go_at_call 161; refine (mul_any P 2 lp (by omega) _).mono ?_; rintro e w' ⟨rfl,rfl⟩)
       go_meet
       refine ⟨w1.heap.size,4,?_,?_,rfl,numEqK (by rw [HPE.out,Gf.mul_two _ lp]),?_,?_⟩
       ·exact Nat.le_of_lt N2
       ·simp
       ·refine fun r hr => ⟨?_,?_⟩
        ·show (w1.alloc _).cell? _ = some (.int .u8 ((Gf.kt k (fun r => W ((I - 1) * 4 + r)) I r:Nat):Int))
         rw [KT.out r]
         rcases (show r = 0∨r = 1∨r = 2∨r = 3 by omega) with rfl | rfl | rfl | rfl
         ·simp
         ·simp [HX.out.2.2.1]
         ·simp [HX.out.2.2.2]
         ·have:=HX.out.1
          simp at this
          simp [this]
        ·show (w1.alloc _).frozen? _ = _
         rcases (show r = 0∨r = 1∨r = 2∨r = 3 by omega) with rfl | rfl | rfl | rfl <;> simp
       ·exact (N1.out.alloc (Nat.le_of_lt N2) _).drew
      ·have em:((I:Int).tmod (k:Int) == 0) = false:=by
        rw [← Int.ofNat_tmod,beq_eq_false_iff_ne]; omega
       have em':((I:Int) % (k:Int) == 0) = false:=by
        rw [← Int.natCast_emod,beq_eq_false_iff_ne]; omega
       have PE:Hid (Gf.pows (I / k) = Gf.pows ((I - 1) / k)):=PW'.out hA
       by_cases h8:k = 8∧I % 8 = 4
       ·have t1:((k:Int) == 8) = true:=by rw [beq_iff_eq]; omega
        have t2:((I:Int) % 8 == 4) = true:=by rw [beq_iff_eq]; omega
        have t3:((I:Int).tmod (k:Int) == 4) = true:=by
         rw [← Int.ofNat_tmod,beq_iff_eq,h8.1,h8.2]; rfl
        have t4:((I:Int) % (k:Int) == 4) = true:=by
         rw [← Int.natCast_emod,beq_iff_eq,h8.1,h8.2]; rfl
        have KT:Hid (∀ r,Gf.kt k (fun r => W ((I - 1) * 4 + r)) I r = Gf.sub (W ((I - 1) * 4 + r))):=fun r => by
         rw [Gf.kt,if_neg hA,if_pos h8]
        clear h8
        have N2':Hid (wo.heap.size < w1.heap.size):=N2
        clear N2 l0 l1 l2 l3
        go_wp2_with fail
        go_loopw [11] (fun q wq => ∃ r:Nat,r≤4∧q = .int .i64 r∧B4 wq wo.heap.size (fun j => if j < r then Gf.sub (W ((I - 1) * 4 + j)) else W ((I - 1) * 4 + j))∧Below wo.heap.size wo wq∧wo.heap.size < wq.heap.size) (fun q _ => 4 - (intOf q).toNat)
        case atStart => exact ⟨0,by omega,rfl,N0.out,N1.out,N2'.out⟩
        case round =>
         clear N0 N1 N2' T1
         obtain ⟨r,hr,rfl,hB4,hb,hL2⟩:=hrel
         have N0:Hid (B4 wr wo.heap.size (fun j => if j < r then Gf.sub (W ((I - 1) * 4 + j)) else W ((I - 1) * 4 + j))):=hB4
         have N1:Hid (Below wo.heap.size wo wr):=hb
         by_cases hr4:r < 4
         ·have la:=LW.out ((I - 1) * 4 + r)
          have c1:wr.cell? ⟨wo.heap.size,r,none⟩ = some (.int .u8 (W ((I - 1) * 4 + r):Nat)):=by
           have:=(hB4 r hr4).1
           simp only [] at this
           rw [if_neg (by omega)] at this
           exact this
          have f1:=(hB4 r hr4).2
          have c2:wr.cell? ⟨b,W ((I - 1) * 4 + r),none⟩ = some (.int .i64 (Gf.sub (W ((I - 1) * 4 + r)):Nat)):=by
           rw [hb.cell (p:=⟨b,_,none⟩) (cellBlockK (TB.out _ la))]; exact TB.out _ la
          have y0:IntKind.u8.wrap (Gf.sub (W ((I - 1) * 4 + r)):Int) = (Gf.sub (W ((I - 1) * 4 + r)):Int):=u8in _ (Gf.sub_lt _ la)
          have e2:(r:Int) < 4:=by omega
          have la':(W ((I - 1) * 4 + r):Int) < 256:=by omega
          clear hB4 hb
          generalize hX:Gf.sub (W ((I - 1) * 4 + r)) = X at *
          have HX:Hid (Gf.sub (W ((I - 1) * 4 + r)) = X):=hX
          clear hX
          generalize W ((I - 1) * 4 + r) = A at c1 c2 la la'
          go_wp2
          go_roundw
          case rel =>
           refine ⟨r + 1,by omega,by go_num,?_,N1.out.setCell (p:=⟨wo.heap.size,r,none⟩) (Nat.le_refl _) _,by simpa using hL2⟩
           exact (N0.out.set r X).congr (fun j hj => by
            by_cases e:j = r
            ·subst e
             rw [if_pos rfl,if_pos (by omega),HX.out]
            ·rw [if_neg e]
             by_cases h1:j < r
             ·rw [if_pos h1,if_pos (by omega)]
             ·rw [if_neg h1,if_neg (by omega)])
          case measure => simp [intOf]; omega
         ·have FIN:Hid (∃ L c,wo.heap.size≤L∧L < wr.heap.size∧Value.slice (some ⟨wo.heap.size,0,none⟩) 4 gc = .slice (some ⟨L,0,none⟩) 4 c∧Value.int .i64 (Gf.pows ((I - 1) / k):Nat) = .int .i64 (Gf.pows (I / k):Nat)∧B4 wr L (fun r => Gf.kt k (fun r => W ((I - 1) * 4 + r)) I r)∧Below wo.heap.size wo wr) :=
           ⟨wo.heap.size,gc,Nat.le_refl _,hL2,rfl,by rw [PE.out],N0.out.congr (fun j hj => by rw [if_pos (by omega),KT.out]),hb⟩
          have hr':¬ (r:Int) < 4:=by omega
          clear hB4 hb N0 N1
          generalize (r:Int) = rr at *
          go_wp2_with fail
          go_meet
          exact FIN.out
       ·have KT:Hid (∀ r,Gf.kt k (fun r => W ((I - 1) * 4 + r)) I r = W ((I - 1) * 4 + r)):=fun r => by
         rw [Gf.kt,if_neg hA,if_neg h8]
        have FIN:Hid (∃ L c,wo.heap.size≤L∧L < w1.heap.size∧Value.slice (some ⟨wo.heap.size,0,none⟩) 4 gc = .slice (some ⟨L,0,none⟩) 4 c∧Value.int .i64 (Gf.pows ((I - 1) / k):Nat) = .int .i64 (Gf.pows (I / k):Nat)∧B4 w1 L (fun r => Gf.kt k (fun r => W ((I - 1) * 4 + r)) I r)∧Below wo.heap.size wo w1) :=
         ⟨wo.heap.size,gc,Nat.le_refl _,N2,rfl,by rw [PE.out],fun r hr => by show w1.cell? _ = some (.int .u8 ((Gf.kt k (fun r => W ((I - 1) * 4 + r)) I r:Nat):Int))∧_; rw [KT.out]; exact N0.out r hr,N1.out⟩
        by_cases h9:k = 8
        ·have t1:((k:Int) == 8) = true:=by rw [beq_iff_eq]; omega
         have t2:((I:Int) % 8 == 4) = false:=by rw [beq_eq_false_iff_ne]; omega
         have t3:((I:Int).tmod (k:Int) == 4) = false:=by
          rw [← Int.ofNat_tmod,beq_eq_false_iff_ne,h9]; omega
         have t4:((I:Int) % (k:Int) == 4) = false:=by
          rw [← Int.natCast_emod,beq_eq_false_iff_ne,h9]; omega
         clear h8 h9
         go_wp2_with fail
         go_meet
         exact FIN.out
        ·have t1:((k:Int) == 8) = false:=by rw [beq_eq_false_iff_ne]; omega
         clear h8 h9
         go_wp2_with fail
         go_meet
         exact FIN.out
     case rest =>
      obtain ⟨L,c,hL1,hL2,rfl,rfl,hB4,hbx⟩:=hcut
      clear N0 N1 N2 T1 TB
      obtain ⟨T,hT⟩:∃ T:Nat→Nat,∀ r,T r = Gf.kt k (fun r => W ((I - 1) * 4 + r)) I r:=⟨_,fun _ => rfl⟩
      have REC':Hid (∀ r,r < 4→W (I * 4 + r) = T r ^^^ W ((I - k) * 4 + r)):=fun r hr => by rw [hT,Nat.xor_comm]; exact REC.out I r hI1 hI hr
      have LT:Hid (∀ r,r < 4→T r < 256):=fun r hr => by rw [hT]; exact Gf.kt_lt (fun _ _ => LW.out _) _ _ hr
      have N0:Hid (B4 wc L T):=fun r hr => by rw [hT]; exact hB4 r hr
      have N1:Hid (Below wo.heap.size wo wc):=hbx
      clear hB4 hbx hT
      go_wp2
      go_loopw [12] (fun q wq => ∃ r:Nat,r≤4∧q = .int .i64 r∧B4 wq L (fun j => if j < r then T j ^^^ W ((I - k) * 4 + j) else T j)∧Below wo.heap.size wo wq∧L < wq.heap.size) (fun q _ => 4 - (intOf q).toNat)
      case atStart => exact ⟨0,by omega,rfl,N0.out,N1.out,hL2⟩
      case round =>
       clear N0 N1 hL2
       obtain ⟨r,hr,rfl,hB4,hb,hL2⟩:=hrel
       have N0:Hid (B4 wr L (fun j => if j < r then T j ^^^ W ((I - k) * 4 + j) else T j)):=hB4
       have N1:Hid (Below wo.heap.size wo wr):=hb
       by_cases hr4:r < 4
       ·have c1:=(hB4 r hr4).1
        simp only [] at c1
        rw [if_neg (by omega)] at c1
        have f1:=(hB4 r hr4).2
        have c2:wr.cell? ⟨g,I - k,none⟩ = some (.string (kstr W ((I - k) * 4) 4)):=by
         rw [hb.cell (p:=⟨g,I - k,none⟩) hg2]; exact HC.out (I - k) (by omega)
        have es:∀ h,((kstr W ((I - k) * 4) 4)[r]'h).toNat = W ((I - k) * 4 + r):=fun h => by
         have:=kstr_get W ((I - k) * 4) 4 r (LW.out _) h; omega
        have hs2:=kstr_size W ((I - k) * 4) 4
        have lt:=LT.out r hr4
        have lw:=LW.out ((I - k) * 4 + r)
        have ex:bits .xor .u8 (T r:Int) (W ((I - k) * 4 + r):Int) = ((T r ^^^ W ((I - k) * 4 + r):Nat):Int):=u8_xor_nat _ _ lt lw
        have e0:(I:Int) - (k:Int) = ((I - k:Nat):Int):=by omega
        have e1:((I - k:Nat):Int) < I:=by omega
        have e2:(r:Int) < 4:=by omega
        clear hB4 hb
        generalize kstr W ((I - k) * 4) 4 = S2 at *
        go_wp2
        go_region
        go_wp2
        go_roundw
        case rel =>
         refine ⟨r + 1,by omega,by go_num,?_,(N1.out.setCell (p:=⟨L,r,none⟩) hL1 _).drew,by simpa using hL2⟩
         exact ((N0.out.set r (T r ^^^ W ((I - k) * 4 + r))).drew).congr (fun j hj => by
          by_cases e:j = r
          ·subst e; simp
          ·rw [if_neg e]
           by_cases h1:j < r
           ·rw [if_pos h1,if_pos (by omega)]
           ·rw [if_neg h1,if_neg (by omega)])
        case measure => simp [intOf]; omega
       ·have hcv:(convert 68 9 (.slice (some ⟨L,0,none⟩) 4 c)).run Tryz.prog wr = .ok (.string (kstr W (I * 4) 4)) wr:=by
         refine run_convert_bytes_arg wr 68 5 Tryz.underlying68 Tryz.underlying5 L 0 4 c ((List.range 4).map fun i => ((W (I * 4 + i):Nat):Int)) (by simp) (fun i hi => ?_) 9 Tryz.underlying9
         rw [Nat.zero_add,(hB4 i hi).1]
         simp only []
         rw [if_pos (by omega),← REC'.out i hi]
         simp [hi]
        have HO':Hid (wr.ownsRow w.heap.size 9 1 (.slice (some ⟨g,0,none⟩) I cap) I ((List.range I).map fun j => .string (kstr W (j * 4) 4))):=ownsRow_below HO.out hb
        have HB':Hid (Below w.heap.size w wr):=HB.out.trans (hb.mono hsz)
        have hr':¬ (r:Int) < 4:=by omega
        have hsz':=HB'.out.size
        clear hB4 hb N0 N1 HO HB hsz HC
        generalize (r:Int) = rr at *
        go_wp2_with (at_builtin; refine wpList_append_own _ rfl _ _ 22 rfl w.heap.size 9 i0 (.string ⟨#[]⟩) 1 16 Tryz.underlying22 HI.out.1 HI.out.2.1 HI.out.2.2.1 HI.out.2.2.2 rfl (by decide) (.slice (some ⟨g,0,none⟩) I cap) I _ rfl (HO'.out.alloc _) ⟨wr.heap.size,0,none⟩ 1 1 [.string (kstr W (I * 4) 4)] rfl rfl (one_newK _ _ _) (one_oneK _ rfl) (by unfold maxLen; omega) (by omega) (by simp; omega) ?_)
        intro v' w2 hown' hgrow _
        have HO1:Hid (w2.ownsRow w.heap.size 9 1 v' (I + 1) ((List.range (I + 1)).map fun j => .string (kstr W (j * 4) 4))):=by
         rw [List.range_succ,List.map_append]; exact hown'
        have HB1:Hid (Below w.heap.size w w2):=(HB'.out.alloc hsz' _).grown hgrow (by simp; omega) (fun b hb => (HO'.out.lt b hb).1)
        clear hown' hgrow HO' HB' hcv
        go_wp2
        go_roundw
        case rel =>
         exact ⟨I + 1,by omega,by omega,by go_num,rfl,HO1.out,HB1.out⟩
        case measure => simp [intOf]; omega
    ·have hI':¬ (I:Int) < 4 * ((k:Int) + 7):=by omega
     obtain rfl:I = 4 * k + 28:=by omega
     obtain ⟨g,cap,hg1,hg2,rfl,hcell⟩:=owned_open HO.out (by omega)
     have HC:Hid (∀ i,i < 4 * k + 28→wo.cell? ⟨g,i,none⟩ = some (.string (kstr W (i * 4) 4))):=hcell
     have hsz:=HB.out.size
     clear hcell hI hI1 hI2
     go_wp2
     go_loopw [13,14] (fun v i wr => ∃ q:Nat,q≤k + 7∧i = .int .i64 ((q * 4:Nat):Int)∧wr.ownsRow wo.heap.size 9 1 v q ((List.range q).map fun j => .string (kstr W (j * 16) 16))∧Below wo.heap.size wo wr) (fun _ i _ => 4 * k + 28 - (intOf i).toNat)
     case atStart =>
      refine ⟨0,by omega,rfl,?_,(Below.refl _ _).alloc (Nat.le_refl _) _⟩
      exact ⟨rfl,.inr ⟨wo.heap.size,0,#[],rfl,Nat.le_refl _,Deep.blk_alloc_new _ _,Nat.le_refl _,by simp [maxLen],rfl,rfl⟩⟩
     case round =>
      obtain ⟨q,hq,rfl,hown,hb⟩:=hrel
      have HO2:Hid (wr.ownsRow wo.heap.size 9 1 u13 q ((List.range q).map fun j => .string (kstr W (j * 16) 16))):=hown
      have HB2:Hid (Below wo.heap.size wo wr):=hb
      have hsz2:=hb.size
      clear hown
      by_cases hq4:q < k + 7
      ·have d0:wr.cell? ⟨g,q * 4,none⟩ = some (.string (kstr W (q * 4 * 4) 4)):=by rw [hb.cell (p:=⟨g,q * 4,none⟩) hg2]; exact HC.out _ (by omega)
       have d1:wr.cell? ⟨g,q * 4 + 1,none⟩ = some (.string (kstr W ((q * 4 + 1) * 4) 4)):=by rw [hb.cell (p:=⟨g,q * 4 + 1,none⟩) hg2]; exact HC.out _ (by omega)
       have d2:wr.cell? ⟨g,q * 4 + 2,none⟩ = some (.string (kstr W ((q * 4 + 2) * 4) 4)):=by rw [hb.cell (p:=⟨g,q * 4 + 2,none⟩) hg2]; exact HC.out _ (by omega)
       have d3:wr.cell? ⟨g,q * 4 + 3,none⟩ = some (.string (kstr W ((q * 4 + 3) * 4) 4)):=by rw [hb.cell (p:=⟨g,q * 4 + 3,none⟩) hg2]; exact HC.out _ (by omega)
       have EK:Hid (kstr W (q * 4 * 4) 4 ++ kstr W ((q * 4 + 1) * 4) 4 ++ kstr W ((q * 4 + 2) * 4) 4 ++ kstr W ((q * 4 + 3) * 4) 4 = kstr W (q * 16) 16):=by
        have h1:_ = kstr W (q * 16) 8:=kstr_append W (q * 16) 4 4
        have h2:_ = kstr W (q * 16) 12:=kstr_append W (q * 16) 8 4
        have h3:_ = kstr W (q * 16) 16:=kstr_append W (q * 16) 12 4
        rw [show q * 4 * 4 = q * 16 from by omega,show (q * 4 + 1) * 4 = q * 16 + 4 from by omega,show (q * 4 + 2) * 4 = q * 16 + 8 from by omega,show (q * 4 + 3) * 4 = q * 16 + 12 from by omega,h1,h2,h3]; exact rfl
       have z0:=kstr_size W (q * 4 * 4) 4
       have z1:=kstr_size W ((q * 4 + 1) * 4) 4
       have z2:=kstr_size W ((q * 4 + 2) * 4) 4
       have z3:=kstr_size W ((q * 4 + 3) * 4) 4
       clear hb
       generalize hQ:q * 4 = Q at *
       generalize kstr W (Q * 4) 4 = s0 at *
       generalize kstr W ((Q + 1) * 4) 4 = s1 at *
       generalize kstr W ((Q + 2) * 4) 4 = s2 at *
       generalize kstr W ((Q + 3) * 4) 4 = s3 at *
       have b0:(Q:Int) < 4 * (k:Int) + 28:=by omega
       have b1:(Q:Int) + 1 < 4 * (k:Int) + 28:=by omega
       have b2:(Q:Int) + 2 < 4 * (k:Int) + 28:=by omega
       have b3:(Q:Int) + 3 < 4 * (k:Int) + 28:=by omega
       have p0:(0:Int)≤(Q:Int):=by omega
       have p1:(0:Int)≤(Q:Int) + 1:=by omega
       have p2:(0:Int)≤(Q:Int) + 2:=by omega
       have p3:(0:Int)≤(Q:Int) + 3:=by omega
       have t1:((Q:Int) + 1).toNat = Q + 1:=by omega
       have t2:((Q:Int) + 2).toNat = Q + 2:=by omega
       have t3:((Q:Int) + 3).toNat = Q + 3:=by omega
       have v1:IntKind.i64.wrap ((Q:Int) + 1) = Q + 1:=IntWalk.i64_in _ ⟨by omega,by omega⟩
       have v2:IntKind.i64.wrap ((Q:Int) + 2) = Q + 2:=IntWalk.i64_in _ ⟨by omega,by omega⟩
       have v3:IntKind.i64.wrap ((Q:Int) + 3) = Q + 3:=IntWalk.i64_in _ ⟨by omega,by omega⟩
       have FAR:Hid (∀ (o:Obj) (w2:World),((wr.alloc o).drew).grownBy w2 u13.ownBlock→w2.cell? ⟨g,Q,none⟩ = some (.string s0)∧w2.cell? ⟨g,Q + 1,none⟩ = some (.string s1)∧w2.cell? ⟨g,Q + 2,none⟩ = some (.string s2)∧w2.cell? ⟨g,Q + 3,none⟩ = some (.string s3)):=fun o w2 hgr => by
        have far:∀ i v,wr.cell? ⟨g,i,none⟩ = some v→w2.cell? ⟨g,i,none⟩ = some v:=fun i v h => by
         rw [hgr.cell_far ⟨g,i,none⟩ (by show g < ((wr.alloc o).drew).heap.size; simp; omega) (by intro e; have:=(HO2.out.lt g e.symm).1; omega)]
         show (wr.alloc o).cell? ⟨g,i,none⟩ = _
         rw [World.cell?_alloc_lt _ _ _ (show g < wr.heap.size by omega)]; exact h
        exact ⟨far _ _ d0,far _ _ d1,far _ _ d2,far _ _ d3⟩
       have NEW:Hid (∀ (v:Value) (t:TypeId) j u,[v][j]? = some u→((wr.alloc (.cells #[v] t)).drew).cell? ((⟨wr.heap.size,0,none⟩:Addr).add j) = some u):=fun v t => one_newK wr v t
       have OWN:Hid (∀ o:Obj,((wr.alloc o).drew).ownsRow wo.heap.size 9 1 u13 q ((List.range q).map fun j => .string (kstr W (j * 16) 16))):=fun o => HO2.out.alloc o
       go_wp2_with fail
       go_region_held3 (fun w' => w'.cell? ⟨g,Q,none⟩ = some (.string s0)∧w'.cell? ⟨g,Q + 1,none⟩ = some (.string s1)∧w'.cell? ⟨g,Q + 2,none⟩ = some (.string s2)∧w'.cell? ⟨g,Q + 3,none⟩ = some (.string s3)) (first | exact FAR.out _ _ hgrow | go_keep)
        ((first
         | (refine step_append_lies _ rfl (.tmp 139) (.tmp 162) 22 rfl wo.heap.size 9 i0 (.string ⟨#[]⟩) 1 16 Tryz.underlying22 HI.out.1 HI.out.2.1 HI.out.2.2.1 HI.out.2.2.2 rfl (by decide) u13 q _ rfl (OWN.out _) ⟨wr.heap.size,0,none⟩ 1 1 [.string (s0 ++ s1 ++ s2 ++ s3)] rfl rfl (NEW.out _ _) (one_oneK _ rfl) (by decide) (by unfold maxLen; omega) (by omega) (by simp; omega) _ rfl ?_; intro g1 cap1 w2 hown' hgrow hat hlt2)))
       have HO3:Hid (w2.ownsRow wo.heap.size 9 1 (.slice (some ⟨g1,0,none⟩) (q + 1) cap1) (q + 1) ((List.range (q + 1)).map fun j => .string (kstr W (j * 16) 16))):=by
        rw [List.range_succ,List.map_append]
        have:=hown'
        rw [EK.out] at this
        exact this
       have HB3:Hid (Below wo.heap.size wo w2):=((HB2.out.alloc hsz2 _).drew).grown hgrow (by simp; omega) (fun b hb => (HO2.out.lt b hb).1)
       clear hown' hgrow hat FAR NEW OWN
       go_wp2
       go_roundw
       case rel => exact ⟨q + 1,by omega,numEqK (by omega),HO3.out,HB3.out⟩
       case measure => simp [intOf]; omega
      ·obtain rfl:q = k + 7:=by omega
       have hq':¬ ((k:Int) + 7) * 4 < 4 * (k:Int) + 28:=by omega
       have HF:Hid (wr.ownsRow w.heap.size 9 1 u13 (k + 7) (ksVals W (k + 7))):=own_mono HO2.out hsz
       have HG:Hid (Below w.heap.size w wr):=HB.out.trans (HB2.out.mono hsz)
       clear hb HO2 HB2 HO HB HC
       go_wp2
       go_ret
       exact ⟨⟨u13,rfl,HF.out⟩,HG.out⟩
end Go.Proofs.YtcpjeopnhgoonaaGreatDoor
