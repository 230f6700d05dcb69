/-
  Texts of the proof, joined.
-/
import Derived.Test.YtcpjeopnhgoonaaGreatDoorF01
import Derived.Test.YtcpjeopnhgoonaaGreatDoorF03
namespace Go.Proofs.YtcpjeopnhgoonaaGreatDoor
open Go.ChangeShapes Go.WideShapes Go.ChangeAt Go.RowKit
set_option linter.unusedVariables false
theorem Tryz.sizeSt:(Tryz.prog.info? 257).map (·.size) = some 16:=by kernel_rfl
theorem idxSt {f:Nat→Nat} {k:Nat} (h:k < 16) (w:World):(Instr.index 257 (.agg (bA 16 f)) (.int .i64 (k:Int))).run Tryz.prog w = .ok (.int .u8 (f k:Nat)) w :=
 run_index_flat Tryz.underlying257 Tryz.underlying5 rfl (by kernel_rfl) h (bA_at h) w
set_option maxRecDepth 100000 in
theorem added_any (f g:Nat→Nat) (hf:∀ i,i < 16→f i < 256) (hg:∀ i,i < 16→g i < 256) (w:World) :
  Calls Tryz.prog 221 #[.agg (bA 16 f),.agg (bA 16 g)] w fun e w' => e = .returned (.agg (bA 16 (fun i => f i ^^^ g i)))∧Below w.heap.size w w':=by
 have HF:Hid (∀ i,i < 16→f i < 256):=hf
 have HG:Hid (∀ i,i < 16→g i < 256):=hg
 clear hf hg
 have R0:Hid (Row8 ((w.alloc (.cells (bA 16 f) 257)).alloc (.cells (bA 16 g) 257)) (w.heap.size + 1) 257 16 g):=Row8.boxedAt (by simp) _ _ _
 go_enter Tryz.func221,Tryz.ntmps221
 go_wp2_with (refine wpList_load_mid rfl 257 (.tmp 3) rfl (w.heap.size + 1) 0 rfl (bv 16 g) _ (R0.out.alloc _).range Tryz.underlying257 rfl (by rw [bv_length]; exact Tryz.sizeSt) ?_)
 have Z':Hid (Row8 (((w.alloc (.cells (bA 16 f) 257)).alloc (.cells (bA 16 g) 257)).alloc (.cells z16 257)) (w.heap.size + 1 + 1) 257 16 (fun _ => 0)):=Row8.z16At (by simp) _
 have R3':Hid (Row8 (((w.alloc (.cells (bA 16 f) 257)).alloc (.cells (bA 16 g) 257)).alloc (.cells z16 257)) w.heap.size 257 16 f):=((Row8.boxedAt rfl _ _ _).alloc _).alloc _
 have B3:Hid (Below w.heap.size w (((w.alloc (.cells (bA 16 f) 257)).alloc (.cells (bA 16 g) 257)).alloc (.cells z16 257))):=(((Below.refl _ _).alloc (Nat.le_refl _) _).alloc (by simp) _).alloc (by simp; omega) _
 clear R0
 unfold z16 at Z' R3' B3
 generalize ((w.alloc (.cells (bA 16 f) 257)).alloc (.cells (bA 16 g) 257)).alloc (.cells #[.int .u8 0,.int .u8 0,.int .u8 0,.int .u8 0,.int .u8 0,.int .u8 0,.int .u8 0,.int .u8 0,.int .u8 0,.int .u8 0,.int .u8 0,.int .u8 0,.int .u8 0,.int .u8 0,.int .u8 0,.int .u8 0] 257) = wz at *
 have eA:(bv 16 g).toArray = bA 16 g:=rfl
 rw [eA]
 clear eA
 go_loopw [5,6,8] (fun _ _ i wr => ∃ k:Nat,k≤16∧i = .int .i64 k∧Row8 wr w.heap.size 257 16 (fun j => if j < k then f j ^^^ g j else f j)∧Row8 wr (w.heap.size + 1 + 1) 257 16 (fun _ => 0)∧Below w.heap.size w wr) (fun _ _ i _ => 16 - (intOf i).toNat)
 case atStart => exact ⟨0,by omega,rfl,R3'.out.congr (fun j hj => by simp),Z'.out,B3.out⟩
 case round =>
  obtain ⟨k,hk,rfl,hr,hz,hb⟩:=hrel
  have HR:Hid (Row8 wr w.heap.size 257 16 (fun j => if j < k then f j ^^^ g j else f j)):=hr
  have HZ:Hid (Row8 wr (w.heap.size + 1 + 1) 257 16 (fun _ => 0)):=hz
  have HB:Hid (Below w.heap.size w wr):=hb
  by_cases hlt:k < 16
  ·have c1:=World.rowIs.cell hr hlt
   have f1:=World.rowIs.frozen hr k
   simp only [Nat.lt_irrefl,if_false] at c1
   have ix:=idxSt (f:=g) hlt
   have lf:=HF.out k hlt
   have lg:=HG.out k hlt
   have ex:bits .xor .u8 (f k:Int) (g k:Int) = ((f k ^^^ g k:Nat):Int):=u8_xor_nat _ _ lf lg
   clear hr hz hb Z' R3' B3
   go_wp2
   go_roundw
   case rel =>
    refine ⟨k + 1,by omega,by go_num,?_,HZ.out.other (by show w.heap.size + 1 + 1≠w.heap.size; omega) _,HB.out.setCell (by exact Nat.le_refl _) _⟩
    exact (HR.out.set k (f k ^^^ g k)).congr (fun j hj => by
     by_cases e:j = k
     ·subst e; simp
     ·simp only [if_neg e]
      by_cases h1:j < k
      ·rw [if_pos h1,if_pos (by omega)]
      ·rw [if_neg h1,if_neg (by omega)])
   case measure => simp [intOf]; omega
  ·have HR':Hid (Row8 wr w.heap.size 257 16 (fun j => f j ^^^ g j)):=hr.congr (fun j hj => by rw [if_pos (by omega)])
   clear hr hz hb Z' R3' B3 HR
   go_wp2_with (first
    | (refine wpList_load_mid rfl 257 (.tmp 2) rfl w.heap.size 0 rfl (bv 16 (fun j => f j ^^^ g j)) _ HR'.out.range Tryz.underlying257 rfl (by rw [bv_length]; exact Tryz.sizeSt) ?_)
    | (refine wpList_store_mid rfl 257 (.tmp 4) (.tmp 19) rfl (w.heap.size + 1 + 1) 0 (bA 16 (fun j => f j ^^^ g j)) rfl rfl (by rw [bA_size]; exact HZ.out.there) (by rw [bA_size]; exact Tryz.sizeSt) (bA_one _ _) ?_))
   rw [bA_toList]
   have L:(loadVar 257 ⟨w.heap.size + 1 + 1,0,none⟩).run Tryz.prog (wr.setCells (w.heap.size + 1 + 1) 0 (bv 16 (fun j => f j ^^^ g j))) = .ok (.agg (bA 16 (fun j => f j ^^^ g j))) (wr.setCells (w.heap.size + 1 + 1) 0 (bv 16 (fun j => f j ^^^ g j))):=(HZ.out.stored _).load Tryz.underlying257 rfl Tryz.sizeSt
   have B:Below w.heap.size w (wr.setCells (w.heap.size + 1 + 1) 0 (bv 16 (fun j => f j ^^^ g j))):=below_setCells (by omega) _ _ _ HB.out
   exact bodyPost_ret (v:=.agg (bA 16 (fun j => f j ^^^ g j))) (results_cell_one (b:=w.heap.size + 1 + 1) (o:=0) Tryz.results221 _ _ _ rfl L) rfl ⟨rfl,B⟩
end Go.Proofs.YtcpjeopnhgoonaaGreatDoor
