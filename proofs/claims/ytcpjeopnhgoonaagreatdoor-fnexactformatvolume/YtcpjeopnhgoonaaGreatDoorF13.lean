/-
  Texts of the proof, joined.
-/
import Derived.Test.YtcpjeopnhgoonaaGreatDoorF03
import Derived.Laws.BytesArg
import Derived.OwnWalk
import Derived.Laws.OwnMore
import Derived.Handy
import Derived.Laws.ComplexArith
import Derived.Deep.RegionWith
namespace Go.Proofs.YtcpjeopnhgoonaaGreatDoor
open Go.ChangeShapes Go.WideShapes Go.RowKit
def strB (s:ByteArray) (j:Nat):Nat:=if h:j < s.size then s[j].toNat else 0
theorem strB_eq (s:ByteArray) (i:Nat) (h:i < s.size):(s[i].toNat:Int) = (strB s i:Nat):=by simp [strB,h]
theorem strB_lt (s:ByteArray) (j:Nat):strB s j < 256:=by
 unfold strB
 split
 ·exact UInt8.toNat_lt _
 ·omega
def kstr (K:Nat→Nat) (o n:Nat):ByteArray:=strOfNums ((List.range n).map fun i => ((K (o + i):Nat):Int))
theorem kstr_size (K:Nat→Nat) (o n:Nat):(kstr K o n).size = n:=by rw [kstr,strOfNums_size]; simp
theorem ba_ext {a b:ByteArray} (h:a.data.toList = b.data.toList):a = b:=by
 cases a with | mk a => cases b with | mk b => congr 1; exact Array.toList_inj.1 h
theorem kstr_data (K:Nat→Nat) (o n:Nat):(kstr K o n).data.toList = (List.range n).map fun i => UInt8.ofNat (K (o + i)):=by
 rw [kstr,strOfNums_data,List.map_map]; rfl
theorem kstr_congr {K L:Nat→Nat} {o p n:Nat} (h:∀ i,i < n→K (o + i) = L (p + i)):kstr K o n = kstr L p n:=by
 apply ba_ext
 rw [kstr_data,kstr_data]
 exact List.map_congr_left (fun i hi => by rw [h i (List.mem_range.1 hi)])
theorem kstr_append (K:Nat→Nat) (o a b:Nat):kstr K o a ++ kstr K (o + a) b = kstr K o (a + b):=by
 apply ba_ext
 rw [ByteArray.data_append,Array.toList_append,kstr_data,kstr_data,kstr_data,List.range_add,List.map_append,List.map_map]
 congr 1
 exact List.map_congr_left (fun i _ => by simp [Nat.add_assoc])
theorem ba_get (s:ByteArray) (i:Nat) (h:i < s.size):s[i] = s.data.toList[i]'(by simpa using h):=by
 simp [ByteArray.getElem_eq_getElem_data]
theorem kstr_get (K:Nat→Nat) (o n i:Nat) (hK:K (o + i) < 256) (h:i < (kstr K o n).size):((kstr K o n)[i].toNat:Int) = (K (o + i):Nat):=by
 rw [ba_get]
 have hi:i < n:=by rwa [kstr_size] at h
 have:(kstr K o n).data.toList[i]'(by simpa using h) = UInt8.ofNat (K (o + i)):=by
  rw [List.getElem_of_eq (kstr_data K o n)]; simp
 rw [this,UInt8.toNat_ofNat']
 rw [Nat.mod_eq_of_lt (by simpa using hK)]
theorem strB_kstr (K:Nat→Nat) (o n i:Nat) (hK:K (o + i) < 256) (h:i < n):strB (kstr K o n) i = K (o + i):=by
 have hs:i < (kstr K o n).size:=by rw [kstr_size]; exact h
 have:=kstr_get K o n i hK hs
 unfold strB
 rw [dif_pos hs]
 omega
theorem strB_get (s:ByteArray) (i:Nat) (h:i < s.size):UInt8.ofNat (strB s i) = s.data.toList[i]'(by simpa using h):=by
 unfold strB
 rw [dif_pos h,← ba_get s i h]
 simp
theorem kstr_extract (s:ByteArray) (o n:Nat) (h:o + n≤s.size):s.extract o (o + n) = kstr (strB s) o n:=by
 apply ba_ext
 rw [kstr_data,ByteArray.data_extract]
 apply List.ext_getElem
 ·simp; omega
 ·intro i h1 h2
  have hi:i < n:=by simpa using h2
  rw [List.getElem_map,List.getElem_range,strB_get s (o + i) (by omega)]
  simp
theorem strB_list (s:ByteArray) (j:Nat):strB s j = ((s.data.toList[j]?).getD 0).toNat:=by
 unfold strB
 by_cases h:j < s.size
 ·rw [dif_pos h]
  have h':j < s.data.toList.length:=by simpa using h
  rw [List.getElem?_eq_getElem h',Option.getD_some,← ba_get s j h]
 ·rw [dif_neg h]
  have h':s.data.toList.length≤j:=by
   have:s.data.toList.length = s.size:=by simp
   omega
  rw [List.getElem?_eq_none h']
  rfl
theorem strB_append (s t:ByteArray) (j:Nat):strB (s ++ t) j = if j < s.size then strB s j else strB t (j - s.size):=by
 have hl:s.data.toList.length = s.size:=by simp
 rw [strB_list,strB_list,strB_list,ByteArray.data_append,Array.toList_append]
 by_cases h:j < s.size
 ·rw [if_pos h,List.getElem?_append_left (by omega)]
 ·rw [if_neg h,List.getElem?_append_right (by omega),hl]
theorem own_mono {w:World} {base base':Nat} {e:TypeId} {size:Nat} {v:Value} {n:Nat} {xs:List Value} (h:w.ownsRow base e size v n xs) (hb:base'≤base):w.ownsRow base' e size v n xs:=by
 obtain ⟨hl,h0 | ⟨g,cap,cur,hv,h1,h2⟩⟩:=h
 ·exact ⟨hl,.inl h0⟩
 ·exact ⟨hl,.inr ⟨g,cap,cur,hv,Nat.le_trans hb h1,h2⟩⟩
end Go.Proofs.YtcpjeopnhgoonaaGreatDoor
namespace Go.Proofs.YtcpjeopnhgoonaaGreatDoor
open Go.ChangeShapes Go.WideShapes Go.ChangeAt Go.RowKit
set_option linter.unusedVariables false
def fOne:Nat:=4607182418800017408
def fMin:Nat:=13830554455654793216
def fNeg:Nat:=9223372036854775808
theorem root0_any (w:World):Calls Tryz.prog 240 #[.int .i64 0] w fun e w' => e = .returned (.complex .f64 fOne 0)∧w' = w:=by
 go_enter Tryz.func240,Tryz.ntmps240
 go_wp2
 go_ret
 exact ⟨rfl,rfl⟩
theorem root1_any (w:World):Calls Tryz.prog 240 #[.int .i64 1] w fun e w' => e = .returned (.complex .f64 0 fOne)∧w' = w:=by
 go_enter Tryz.func240,Tryz.ntmps240
 go_wp2
 go_ret
 exact ⟨rfl,rfl⟩
theorem root2_any (w:World):Calls Tryz.prog 240 #[.int .i64 2] w fun e w' => e = .returned (.complex .f64 fMin 0)∧w' = w:=by
 go_enter Tryz.func240,Tryz.ntmps240
 go_wp2
 go_ret
 exact ⟨rfl,rfl⟩
theorem root3_any (w:World):Calls Tryz.prog 240 #[.int .i64 3] w fun e w' => e = .returned (.complex .f64 0 fMin)∧w' = w:=by
 go_enter Tryz.func240,Tryz.ntmps240
 go_wp2
 go_ret
 exact ⟨rfl,rfl⟩
theorem mul00 (w:World):(binOp .mul 288 (.complex .f64 fOne 0) (.complex .f64 fOne 0)).run Tryz.prog w = .ok (.complex .f64 fOne 0) w:=run_complex_mul w 288 fOne 0 fOne 0 fOne 0 (by kernel_rfl)
theorem neq00 (w:World):(binOp .neq 288 (.complex .f64 fOne 0) (.complex .f64 fOne 0)).run Tryz.prog w = .ok (.bool false) w:=by
 rw [run_neq_complex]; rw [show (!((FloatKind.f64.format.order fOne fOne == some .eq) && (FloatKind.f64.format.order 0 0 == some .eq))) = false by kernel_rfl]
theorem mul01 (w:World):(binOp .mul 288 (.complex .f64 fOne 0) (.complex .f64 0 fOne)).run Tryz.prog w = .ok (.complex .f64 0 fOne) w:=run_complex_mul w 288 fOne 0 0 fOne 0 fOne (by kernel_rfl)
theorem neq01 (w:World):(binOp .neq 288 (.complex .f64 0 fOne) (.complex .f64 0 fOne)).run Tryz.prog w = .ok (.bool false) w:=by
 rw [run_neq_complex]; rw [show (!((FloatKind.f64.format.order 0 0 == some .eq) && (FloatKind.f64.format.order fOne fOne == some .eq))) = false by kernel_rfl]
theorem mul02 (w:World):(binOp .mul 288 (.complex .f64 fOne 0) (.complex .f64 fMin 0)).run Tryz.prog w = .ok (.complex .f64 fMin 0) w:=run_complex_mul w 288 fOne 0 fMin 0 fMin 0 (by kernel_rfl)
theorem neq02 (w:World):(binOp .neq 288 (.complex .f64 fMin 0) (.complex .f64 fMin 0)).run Tryz.prog w = .ok (.bool false) w:=by
 rw [run_neq_complex]; rw [show (!((FloatKind.f64.format.order fMin fMin == some .eq) && (FloatKind.f64.format.order 0 0 == some .eq))) = false by kernel_rfl]
theorem mul03 (w:World):(binOp .mul 288 (.complex .f64 fOne 0) (.complex .f64 0 fMin)).run Tryz.prog w = .ok (.complex .f64 0 fMin) w:=run_complex_mul w 288 fOne 0 0 fMin 0 fMin (by kernel_rfl)
theorem neq03 (w:World):(binOp .neq 288 (.complex .f64 0 fMin) (.complex .f64 0 fMin)).run Tryz.prog w = .ok (.bool false) w:=by
 rw [run_neq_complex]; rw [show (!((FloatKind.f64.format.order 0 0 == some .eq) && (FloatKind.f64.format.order fMin fMin == some .eq))) = false by kernel_rfl]
theorem mul10 (w:World):(binOp .mul 288 (.complex .f64 0 fOne) (.complex .f64 fOne 0)).run Tryz.prog w = .ok (.complex .f64 0 fOne) w:=run_complex_mul w 288 0 fOne fOne 0 0 fOne (by kernel_rfl)
theorem neq10 (w:World):(binOp .neq 288 (.complex .f64 0 fOne) (.complex .f64 0 fOne)).run Tryz.prog w = .ok (.bool false) w:=by
 rw [run_neq_complex]; rw [show (!((FloatKind.f64.format.order 0 0 == some .eq) && (FloatKind.f64.format.order fOne fOne == some .eq))) = false by kernel_rfl]
theorem mul11 (w:World):(binOp .mul 288 (.complex .f64 0 fOne) (.complex .f64 0 fOne)).run Tryz.prog w = .ok (.complex .f64 fMin 0) w:=run_complex_mul w 288 0 fOne 0 fOne fMin 0 (by kernel_rfl)
theorem neq11 (w:World):(binOp .neq 288 (.complex .f64 fMin 0) (.complex .f64 fMin 0)).run Tryz.prog w = .ok (.bool false) w:=by
 rw [run_neq_complex]; rw [show (!((FloatKind.f64.format.order fMin fMin == some .eq) && (FloatKind.f64.format.order 0 0 == some .eq))) = false by kernel_rfl]
theorem mul12 (w:World):(binOp .mul 288 (.complex .f64 0 fOne) (.complex .f64 fMin 0)).run Tryz.prog w = .ok (.complex .f64 fNeg fMin) w:=run_complex_mul w 288 0 fOne fMin 0 fNeg fMin (by kernel_rfl)
theorem neq12 (w:World):(binOp .neq 288 (.complex .f64 0 fMin) (.complex .f64 fNeg fMin)).run Tryz.prog w = .ok (.bool false) w:=by
 rw [run_neq_complex]; rw [show (!((FloatKind.f64.format.order 0 fNeg == some .eq) && (FloatKind.f64.format.order fMin fMin == some .eq))) = false by kernel_rfl]
theorem mul13 (w:World):(binOp .mul 288 (.complex .f64 0 fOne) (.complex .f64 0 fMin)).run Tryz.prog w = .ok (.complex .f64 fOne 0) w:=run_complex_mul w 288 0 fOne 0 fMin fOne 0 (by kernel_rfl)
theorem neq13 (w:World):(binOp .neq 288 (.complex .f64 fOne 0) (.complex .f64 fOne 0)).run Tryz.prog w = .ok (.bool false) w:=by
 rw [run_neq_complex]; rw [show (!((FloatKind.f64.format.order fOne fOne == some .eq) && (FloatKind.f64.format.order 0 0 == some .eq))) = false by kernel_rfl]
theorem mul20 (w:World):(binOp .mul 288 (.complex .f64 fMin 0) (.complex .f64 fOne 0)).run Tryz.prog w = .ok (.complex .f64 fMin 0) w:=run_complex_mul w 288 fMin 0 fOne 0 fMin 0 (by kernel_rfl)
theorem neq20 (w:World):(binOp .neq 288 (.complex .f64 fMin 0) (.complex .f64 fMin 0)).run Tryz.prog w = .ok (.bool false) w:=by
 rw [run_neq_complex]; rw [show (!((FloatKind.f64.format.order fMin fMin == some .eq) && (FloatKind.f64.format.order 0 0 == some .eq))) = false by kernel_rfl]
theorem mul21 (w:World):(binOp .mul 288 (.complex .f64 fMin 0) (.complex .f64 0 fOne)).run Tryz.prog w = .ok (.complex .f64 fNeg fMin) w:=run_complex_mul w 288 fMin 0 0 fOne fNeg fMin (by kernel_rfl)
theorem neq21 (w:World):(binOp .neq 288 (.complex .f64 0 fMin) (.complex .f64 fNeg fMin)).run Tryz.prog w = .ok (.bool false) w:=by
 rw [run_neq_complex]; rw [show (!((FloatKind.f64.format.order 0 fNeg == some .eq) && (FloatKind.f64.format.order fMin fMin == some .eq))) = false by kernel_rfl]
theorem mul22 (w:World):(binOp .mul 288 (.complex .f64 fMin 0) (.complex .f64 fMin 0)).run Tryz.prog w = .ok (.complex .f64 fOne fNeg) w:=run_complex_mul w 288 fMin 0 fMin 0 fOne fNeg (by kernel_rfl)
theorem neq22 (w:World):(binOp .neq 288 (.complex .f64 fOne 0) (.complex .f64 fOne fNeg)).run Tryz.prog w = .ok (.bool false) w:=by
 rw [run_neq_complex]; rw [show (!((FloatKind.f64.format.order fOne fOne == some .eq) && (FloatKind.f64.format.order 0 fNeg == some .eq))) = false by kernel_rfl]
theorem mul23 (w:World):(binOp .mul 288 (.complex .f64 fMin 0) (.complex .f64 0 fMin)).run Tryz.prog w = .ok (.complex .f64 0 fOne) w:=run_complex_mul w 288 fMin 0 0 fMin 0 fOne (by kernel_rfl)
theorem neq23 (w:World):(binOp .neq 288 (.complex .f64 0 fOne) (.complex .f64 0 fOne)).run Tryz.prog w = .ok (.bool false) w:=by
 rw [run_neq_complex]; rw [show (!((FloatKind.f64.format.order 0 0 == some .eq) && (FloatKind.f64.format.order fOne fOne == some .eq))) = false by kernel_rfl]
theorem mul30 (w:World):(binOp .mul 288 (.complex .f64 0 fMin) (.complex .f64 fOne 0)).run Tryz.prog w = .ok (.complex .f64 0 fMin) w:=run_complex_mul w 288 0 fMin fOne 0 0 fMin (by kernel_rfl)
theorem neq30 (w:World):(binOp .neq 288 (.complex .f64 0 fMin) (.complex .f64 0 fMin)).run Tryz.prog w = .ok (.bool false) w:=by
 rw [run_neq_complex]; rw [show (!((FloatKind.f64.format.order 0 0 == some .eq) && (FloatKind.f64.format.order fMin fMin == some .eq))) = false by kernel_rfl]
theorem mul31 (w:World):(binOp .mul 288 (.complex .f64 0 fMin) (.complex .f64 0 fOne)).run Tryz.prog w = .ok (.complex .f64 fOne 0) w:=run_complex_mul w 288 0 fMin 0 fOne fOne 0 (by kernel_rfl)
theorem neq31 (w:World):(binOp .neq 288 (.complex .f64 fOne 0) (.complex .f64 fOne 0)).run Tryz.prog w = .ok (.bool false) w:=by
 rw [run_neq_complex]; rw [show (!((FloatKind.f64.format.order fOne fOne == some .eq) && (FloatKind.f64.format.order 0 0 == some .eq))) = false by kernel_rfl]
theorem mul32 (w:World):(binOp .mul 288 (.complex .f64 0 fMin) (.complex .f64 fMin 0)).run Tryz.prog w = .ok (.complex .f64 0 fOne) w:=run_complex_mul w 288 0 fMin fMin 0 0 fOne (by kernel_rfl)
theorem neq32 (w:World):(binOp .neq 288 (.complex .f64 0 fOne) (.complex .f64 0 fOne)).run Tryz.prog w = .ok (.bool false) w:=by
 rw [run_neq_complex]; rw [show (!((FloatKind.f64.format.order 0 0 == some .eq) && (FloatKind.f64.format.order fOne fOne == some .eq))) = false by kernel_rfl]
theorem mul33 (w:World):(binOp .mul 288 (.complex .f64 0 fMin) (.complex .f64 0 fMin)).run Tryz.prog w = .ok (.complex .f64 fMin fNeg) w:=run_complex_mul w 288 0 fMin 0 fMin fMin fNeg (by kernel_rfl)
theorem neq33 (w:World):(binOp .neq 288 (.complex .f64 fMin 0) (.complex .f64 fMin fNeg)).run Tryz.prog w = .ok (.bool false) w:=by
 rw [run_neq_complex]; rw [show (!((FloatKind.f64.format.order fMin fMin == some .eq) && (FloatKind.f64.format.order 0 fNeg == some .eq))) = false by kernel_rfl]
def ordA:Array Value:=#[.int .i64 0,.int .i64 5,.int .i64 10,.int .i64 15,.int .i64 4,.int .i64 9,.int .i64 14,.int .i64 3,.int .i64 8,.int .i64 13,.int .i64 2,.int .i64 7,.int .i64 12,.int .i64 1,.int .i64 6,.int .i64 11]
theorem ordI (k:Nat) (v:Int) (hk:k < 16) (hv:ordA[k]? = some (.int .i64 v)) (w:World):(Instr.index 260 (.agg ordA) (.int .i64 (k:Int))).run Tryz.prog w = .ok (.int .i64 v) w :=
 run_index_flat Tryz.underlying260 Tryz.underlying3 rfl (by kernel_rfl) hk hv w
theorem range_alloc (w:World) (A:Array Value) (t:TypeId):(w.alloc (.cells A t)).rangeAt w.heap.size 0 A.toList:=fun j v hv => by
 rw [Nat.zero_add]
 have h:=World.rowIs_alloc w A t (fun i => A.getD i undef) (fun i hi => by simp [hi])
 have hj:j < A.size:=by have:=(List.getElem?_eq_some_iff.1 hv).1; simpa using this
 rw [h.cell hj]
 have:A[j]? = some v:=by simpa using hv
 simp [this]
theorem Tryz.sizeO:(Tryz.prog.info? 260).map (·.size) = some 16:=by kernel_rfl
theorem ordA_len:ordA.toList.length = 16:=rfl
set_option maxRecDepth 100000 in
set_option maxHeartbeats 4000000 in
theorem turnsLeft_any (w:World):Calls Tryz.prog 235 #[.agg ordA] w fun e w' => e = .returned (.bool true)∧Below w.heap.size w w':=by
 have i0:∀ w,(Instr.index 260 (.agg ordA) (.int .i64 0)).run Tryz.prog w = .ok (.int .i64 0) w:=ordI 0 0 (by omega) rfl
 have i1:∀ w,(Instr.index 260 (.agg ordA) (.int .i64 1)).run Tryz.prog w = .ok (.int .i64 5) w:=ordI 1 5 (by omega) rfl
 have i2:∀ w,(Instr.index 260 (.agg ordA) (.int .i64 2)).run Tryz.prog w = .ok (.int .i64 10) w:=ordI 2 10 (by omega) rfl
 have i3:∀ w,(Instr.index 260 (.agg ordA) (.int .i64 3)).run Tryz.prog w = .ok (.int .i64 15) w:=ordI 3 15 (by omega) rfl
 have i4:∀ w,(Instr.index 260 (.agg ordA) (.int .i64 4)).run Tryz.prog w = .ok (.int .i64 4) w:=ordI 4 4 (by omega) rfl
 have i5:∀ w,(Instr.index 260 (.agg ordA) (.int .i64 5)).run Tryz.prog w = .ok (.int .i64 9) w:=ordI 5 9 (by omega) rfl
 have i6:∀ w,(Instr.index 260 (.agg ordA) (.int .i64 6)).run Tryz.prog w = .ok (.int .i64 14) w:=ordI 6 14 (by omega) rfl
 have i7:∀ w,(Instr.index 260 (.agg ordA) (.int .i64 7)).run Tryz.prog w = .ok (.int .i64 3) w:=ordI 7 3 (by omega) rfl
 have i8:∀ w,(Instr.index 260 (.agg ordA) (.int .i64 8)).run Tryz.prog w = .ok (.int .i64 8) w:=ordI 8 8 (by omega) rfl
 have i9:∀ w,(Instr.index 260 (.agg ordA) (.int .i64 9)).run Tryz.prog w = .ok (.int .i64 13) w:=ordI 9 13 (by omega) rfl
 have i10:∀ w,(Instr.index 260 (.agg ordA) (.int .i64 10)).run Tryz.prog w = .ok (.int .i64 2) w:=ordI 10 2 (by omega) rfl
 have i11:∀ w,(Instr.index 260 (.agg ordA) (.int .i64 11)).run Tryz.prog w = .ok (.int .i64 7) w:=ordI 11 7 (by omega) rfl
 have i12:∀ w,(Instr.index 260 (.agg ordA) (.int .i64 12)).run Tryz.prog w = .ok (.int .i64 12) w:=ordI 12 12 (by omega) rfl
 have i13:∀ w,(Instr.index 260 (.agg ordA) (.int .i64 13)).run Tryz.prog w = .ok (.int .i64 1) w:=ordI 13 1 (by omega) rfl
 have i14:∀ w,(Instr.index 260 (.agg ordA) (.int .i64 14)).run Tryz.prog w = .ok (.int .i64 6) w:=ordI 14 6 (by omega) rfl
 have i15:∀ w,(Instr.index 260 (.agg ordA) (.int .i64 15)).run Tryz.prog w = .ok (.int .i64 11) w:=ordI 15 11 (by omega) rfl
 have R:Hid ((w.alloc (.cells ordA 260)).rangeAt w.heap.size 0 ordA.toList):=range_alloc w ordA 260
 have m00:=mul00
 have n00:=neq00
 have m01:=mul01
 have n01:=neq01
 have m02:=mul02
 have n02:=neq02
 have m03:=mul03
 have n03:=neq03
 have m10:=mul10
 have n10:=neq10
 have m11:=mul11
 have n11:=neq11
 have m12:=mul12
 have n12:=neq12
 have m13:=mul13
 have n13:=neq13
 have m20:=mul20
 have n20:=neq20
 have m21:=mul21
 have n21:=neq21
 have m22:=mul22
 have n22:=neq22
 have m23:=mul23
 have n23:=neq23
 have m30:=mul30
 have n30:=neq30
 have m31:=mul31
 have n31:=neq31
 have m32:=mul32
 have n32:=neq32
 have m33:=mul33
 have n33:=neq33
 go_enter Tryz.func235,Tryz.ntmps235
 go_wp2_with (refine wpList_load_mid rfl 260 (.tmp 1) rfl w.heap.size 0 rfl ordA.toList _ R.out Tryz.underlying260 rfl (by rw [ordA_len]; exact Tryz.sizeO) ?_)
 clear R
 have r0:=root0_any
 have r1:=root1_any
 have r2:=root2_any
 have r3:=root3_any
 have RR:Hid ((∀ w:World,Calls Tryz.prog 240 #[.int .i64 0] w fun e w' => e = .returned (.complex .f64 fOne 0)∧w' = w)∧(∀ w:World,Calls Tryz.prog 240 #[.int .i64 1] w fun e w' => e = .returned (.complex .f64 0 fOne)∧w' = w)∧(∀ w:World,Calls Tryz.prog 240 #[.int .i64 2] w fun e w' => e = .returned (.complex .f64 fMin 0)∧w' = w)∧(∀ w:World,Calls Tryz.prog 240 #[.int .i64 3] w fun e w' => e = .returned (.complex .f64 0 fMin)∧w' = w)):=⟨r0,r1,r2,r3⟩
 clear r0 r1 r2 r3
 generalize ordA = A at *
 generalize fOne = F1 at *
 generalize fMin = F2 at *
 generalize fNeg = F3 at *
 refine wp_loop_rounds 17 ?_
 rw [rounds_succ]
 go_wp2_with fail
 refine (RR.out.1 _).mono ?_; rintro e w' ⟨rfl,rfl⟩
 go_wp2_with fail
 refine (RR.out.1 _).mono ?_; rintro e w' ⟨rfl,rfl⟩
 go_wp2_with fail
 refine (RR.out.1 _).mono ?_; rintro e w' ⟨rfl,rfl⟩
 go_wp2_with fail
 rw [rounds_succ]
 go_wp2_with fail
 refine (RR.out.2.1 _).mono ?_; rintro e w' ⟨rfl,rfl⟩
 go_wp2_with fail
 refine (RR.out.1 _).mono ?_; rintro e w' ⟨rfl,rfl⟩
 go_wp2_with fail
 refine (RR.out.2.1 _).mono ?_; rintro e w' ⟨rfl,rfl⟩
 go_wp2_with fail
 rw [rounds_succ]
 go_wp2_with fail
 refine (RR.out.2.2.1 _).mono ?_; rintro e w' ⟨rfl,rfl⟩
 go_wp2_with fail
 refine (RR.out.1 _).mono ?_; rintro e w' ⟨rfl,rfl⟩
 go_wp2_with fail
 refine (RR.out.2.2.1 _).mono ?_; rintro e w' ⟨rfl,rfl⟩
 go_wp2_with fail
 rw [rounds_succ]
 go_wp2_with fail
 refine (RR.out.2.2.2 _).mono ?_; rintro e w' ⟨rfl,rfl⟩
 go_wp2_with fail
 refine (RR.out.1 _).mono ?_; rintro e w' ⟨rfl,rfl⟩
 go_wp2_with fail
 refine (RR.out.2.2.2 _).mono ?_; rintro e w' ⟨rfl,rfl⟩
 go_wp2_with fail
 rw [rounds_succ]
 go_wp2_with fail
 refine (RR.out.2.1 _).mono ?_; rintro e w' ⟨rfl,rfl⟩
 go_wp2_with fail
 refine (RR.out.2.1 _).mono ?_; rintro e w' ⟨rfl,rfl⟩
 go_wp2_with fail
 refine (RR.out.1 _).mono ?_; rintro e w' ⟨rfl,rfl⟩
 go_wp2_with fail
 rw [rounds_succ]
 go_wp2_with fail
 refine (RR.out.2.2.1 _).mono ?_; rintro e w' ⟨rfl,rfl⟩
 go_wp2_with fail
 refine (RR.out.2.1 _).mono ?_; rintro e w' ⟨rfl,rfl⟩
 go_wp2_with fail
 refine (RR.out.2.1 _).mono ?_; rintro e w' ⟨rfl,rfl⟩
 go_wp2_with fail
 rw [rounds_succ]
 go_wp2_with fail
 refine (RR.out.2.2.2 _).mono ?_; rintro e w' ⟨rfl,rfl⟩
 go_wp2_with fail
 refine (RR.out.2.1 _).mono ?_; rintro e w' ⟨rfl,rfl⟩
 go_wp2_with fail
 refine (RR.out.2.2.1 _).mono ?_; rintro e w' ⟨rfl,rfl⟩
 go_wp2_with fail
 rw [rounds_succ]
 go_wp2_with fail
 refine (RR.out.1 _).mono ?_; rintro e w' ⟨rfl,rfl⟩
 go_wp2_with fail
 refine (RR.out.2.1 _).mono ?_; rintro e w' ⟨rfl,rfl⟩
 go_wp2_with fail
 refine (RR.out.2.2.2 _).mono ?_; rintro e w' ⟨rfl,rfl⟩
 go_wp2_with fail
 rw [rounds_succ]
 go_wp2_with fail
 refine (RR.out.2.2.1 _).mono ?_; rintro e w' ⟨rfl,rfl⟩
 go_wp2_with fail
 refine (RR.out.2.2.1 _).mono ?_; rintro e w' ⟨rfl,rfl⟩
 go_wp2_with fail
 refine (RR.out.1 _).mono ?_; rintro e w' ⟨rfl,rfl⟩
 go_wp2_with fail
 rw [rounds_succ]
 go_wp2_with fail
 refine (RR.out.2.2.2 _).mono ?_; rintro e w' ⟨rfl,rfl⟩
 go_wp2_with fail
 refine (RR.out.2.2.1 _).mono ?_; rintro e w' ⟨rfl,rfl⟩
 go_wp2_with fail
 refine (RR.out.2.1 _).mono ?_; rintro e w' ⟨rfl,rfl⟩
 go_wp2_with fail
 rw [rounds_succ]
 go_wp2_with fail
 refine (RR.out.1 _).mono ?_; rintro e w' ⟨rfl,rfl⟩
 go_wp2_with fail
 refine (RR.out.2.2.1 _).mono ?_; rintro e w' ⟨rfl,rfl⟩
 go_wp2_with fail
 refine (RR.out.2.2.1 _).mono ?_; rintro e w' ⟨rfl,rfl⟩
 go_wp2_with fail
 rw [rounds_succ]
 go_wp2_with fail
 refine (RR.out.2.1 _).mono ?_; rintro e w' ⟨rfl,rfl⟩
 go_wp2_with fail
 refine (RR.out.2.2.1 _).mono ?_; rintro e w' ⟨rfl,rfl⟩
 go_wp2_with fail
 refine (RR.out.2.2.2 _).mono ?_; rintro e w' ⟨rfl,rfl⟩
 go_wp2_with fail
 rw [rounds_succ]
 go_wp2_with fail
 refine (RR.out.2.2.2 _).mono ?_; rintro e w' ⟨rfl,rfl⟩
 go_wp2_with fail
 refine (RR.out.2.2.2 _).mono ?_; rintro e w' ⟨rfl,rfl⟩
 go_wp2_with fail
 refine (RR.out.1 _).mono ?_; rintro e w' ⟨rfl,rfl⟩
 go_wp2_with fail
 rw [rounds_succ]
 go_wp2_with fail
 refine (RR.out.1 _).mono ?_; rintro e w' ⟨rfl,rfl⟩
 go_wp2_with fail
 refine (RR.out.2.2.2 _).mono ?_; rintro e w' ⟨rfl,rfl⟩
 go_wp2_with fail
 refine (RR.out.2.1 _).mono ?_; rintro e w' ⟨rfl,rfl⟩
 go_wp2_with fail
 rw [rounds_succ]
 go_wp2_with fail
 refine (RR.out.2.1 _).mono ?_; rintro e w' ⟨rfl,rfl⟩
 go_wp2_with fail
 refine (RR.out.2.2.2 _).mono ?_; rintro e w' ⟨rfl,rfl⟩
 go_wp2_with fail
 refine (RR.out.2.2.1 _).mono ?_; rintro e w' ⟨rfl,rfl⟩
 go_wp2_with fail
 rw [rounds_succ]
 go_wp2_with fail
 refine (RR.out.2.2.1 _).mono ?_; rintro e w' ⟨rfl,rfl⟩
 go_wp2_with fail
 refine (RR.out.2.2.2 _).mono ?_; rintro e w' ⟨rfl,rfl⟩
 go_wp2_with fail
 refine (RR.out.2.2.2 _).mono ?_; rintro e w' ⟨rfl,rfl⟩
 go_wp2_with fail
 rw [rounds_succ]
 go_wp2
 go_ret
 exact ⟨rfl,(Below.refl _ _).alloc (Nat.le_refl _) _⟩
theorem range_below {w w':World} {b o:Nat} {cs:List Value} (h:w.rangeAt b o cs) (hb:Below w.heap.size w w'):w'.rangeAt b o cs:=fun j v hv => by
 have c:=h j v hv
 have hlt:b < w.heap.size:=by
  rcases Nat.lt_or_ge b w.heap.size with g | g
  ·exact g
  ·simp [World.cell?,Array.getElem?_eq_none g] at c
 rw [hb.cell (p:=⟨b,o + j,none⟩) hlt]; exact c
theorem there_below {w w':World} {b o n:Nat} (h:w.there b o n) (hlt:b < w.heap.size) (hb:Below w.heap.size w w'):w'.there b o n:=fun j hj => by
 rw [hb.cell (p:=⟨b,o + j,none⟩) hlt,hb.frozen (p:=⟨b,o + j,none⟩) hlt]; exact h j hj
theorem there_alloc (w:World) (A:Array Value) (t:TypeId):(w.alloc (.cells A t)).there w.heap.size 0 A.size:=fun j hj => by
 have h:=World.rowIs_alloc w A t (fun i => A.getD i undef) (fun i hi => by simp [hi])
 rw [Nat.zero_add,h.cell hj,h.frozen j]
 exact ⟨rfl,rfl⟩
def zI16:Array Value:=#[.int .i64 0,.int .i64 0,.int .i64 0,.int .i64 0,.int .i64 0,.int .i64 0,.int .i64 0,.int .i64 0,.int .i64 0,.int .i64 0,.int .i64 0,.int .i64 0,.int .i64 0,.int .i64 0,.int .i64 0,.int .i64 0]
theorem ordA_size:ordA.size = 16:=rfl
theorem ordA_one:ordA.all (·.oneCell') = true:=by kernel_rfl
set_option maxRecDepth 100000 in
set_option maxHeartbeats 4000000 in
theorem rowOrder_any (w:World):Calls Tryz.prog 220 #[] w fun e w' => e = .returned (.agg ordA)∧Below w.heap.size w w':=by
 have T:=turnsLeft_any ((w.alloc (.cells zI16 260)).alloc (.cells ordA 260))
 have Z0:((w.alloc (.cells zI16 260)).alloc (.cells ordA 260)).there w.heap.size 0 16:=there_below (there_alloc w zI16 260) (by simp) ((Below.refl _ _).alloc (Nat.le_refl _) _)
 have R0:((w.alloc (.cells zI16 260)).alloc (.cells ordA 260)).rangeAt (w.heap.size + 1) 0 ordA.toList:=by
  have:=range_alloc (w.alloc (.cells zI16 260)) ordA 260
  simpa using this
 have B0:Below w.heap.size w ((w.alloc (.cells zI16 260)).alloc (.cells ordA 260)):=((Below.refl _ _).alloc (Nat.le_refl _) _).alloc (by simp) _
 have C:Hid (Calls Tryz.prog 235 #[.agg ordA] ((w.alloc (.cells zI16 260)).alloc (.cells ordA 260)) fun e w' => e = .returned (.bool true)∧(w'.there w.heap.size 0 16∧w'.rangeAt (w.heap.size + 1) 0 ordA.toList∧Below w.heap.size w w')) :=
  T.mono fun e w' ⟨he,hb⟩ => ⟨he,there_below Z0 (by simp; omega) hb,range_below R0 hb,B0.trans (hb.mono (by simp; omega))⟩
 clear T Z0 R0 B0
 go_enter Tryz.func220,Tryz.ntmps220
 go_wp2_with fail
 have C':=C.out
 unfold zI16 ordA at C'
 refine Calls.mono C' ?_
 clear C'
 rw [← ordA.eq_1]
 rintro e w1 ⟨rfl,hz,hr,hb⟩
 have HZ:Hid (w1.there w.heap.size 0 16):=hz
 have HR:Hid (w1.rangeAt (w.heap.size + 1) 0 ordA.toList):=hr
 have HB:Hid (Below w.heap.size w w1):=hb
 clear hz hr hb C
 have hA1:Hid ((Tryz.prog.info? 260).map (·.size) = some ordA.toList.length):=Tryz.sizeO
 have hA2:Hid (ordA.all (·.oneCell') = true):=ordA_one
 have hA3:Hid (ordA.size = 16):=ordA_size
 generalize hE:ordA = A at *
 have HE:Hid (ordA = A):=hE
 clear hE
 go_wp2_with (first
  | (refine wpList_load_mid rfl 260 (.tmp 1) rfl (w.heap.size + 1) 0 rfl A.toList _ HR.out Tryz.underlying260 rfl hA1.out ?_)
  | (refine wpList_store_mid rfl 260 (.tmp 0) (.tmp 6) rfl w.heap.size 0 A rfl rfl (by rw [hA3.out]; exact HZ.out) (by rw [hA3.out]; exact Tryz.sizeO) hA2.out ?_))
 have hL:(w1.setCells w.heap.size 0 A.toList).rangeAt w.heap.size 0 A.toList:=World.rangeAt_setCells_same w1 w.heap.size 0 A.toList (by rw [Array.length_toList,hA3.out]; exact HZ.out)
 have Lo:(loadVar 260 ⟨w.heap.size,0,none⟩).run Tryz.prog (w1.setCells w.heap.size 0 A.toList) = .ok (.agg A) (w1.setCells w.heap.size 0 A.toList):=run_loadVar_mid _ w.heap.size 0 260 A.toList _ hL Tryz.underlying260 rfl hA1.out
 have Bo:Below w.heap.size w (w1.setCells w.heap.size 0 A.toList):=below_setCells (Nat.le_refl _) _ _ _ HB.out
 rw [HE.out]
 exact bodyPost_ret (v:=.agg A) (results_cell_one (b:=w.heap.size) (o:=0) Tryz.results220 _ _ _ rfl Lo) rfl ⟨rfl,Bo⟩
end Go.Proofs.YtcpjeopnhgoonaaGreatDoor
