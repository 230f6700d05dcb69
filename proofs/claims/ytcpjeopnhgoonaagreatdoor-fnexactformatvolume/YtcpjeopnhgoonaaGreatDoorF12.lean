/-
  Texts of the proof, joined.
-/
import Derived.Test.YtcpjeopnhgoonaaGreatDoorF04
import Derived.OwnWalk
import Derived.Lib.SliceRun
import Derived.Lib.AppendZeros
import Derived.Laws.IdiomCopy
import Derived.LoopN
import Derived.BigRegion
namespace Go.Proofs.YtcpjeopnhgoonaaGreatDoor
open Go.ChangeShapes Go.WideShapes Go.ChangeAt Go.RowKit
set_option linter.unusedVariables false
def RetB (w w':World) (e:Ending) (n:Nat) (f:Nat→Nat):Prop:=∃ b c,(w.heap.size≤b∧n≤c)∧e = .returned (.slice (some ⟨b,0,none⟩) n c)∧Own8 w' b n f
set_option maxRecDepth 100000 in
set_option maxHeartbeats 1000000 in
theorem grow_nil (n:Nat) (hn:1≤n) (hn':n≤2000000) (w:World) :
  Calls Tryz.prog 210 #[.slice none 0 0,.int .i64 (n:Int)] w fun e w' => (∃ b c,w.heap.size≤b∧e = .returned (.slice (some ⟨b,0,none⟩) 0 c)∧w'.ownsRow w.heap.size 5 1 (.slice (some ⟨b,0,none⟩) 0 c) 0 [])∧Below w.heap.size w w':=by
 obtain ⟨i0,hi,hz,hs,hb⟩:=info_parts Tryz.info8
 have hrz:∀ ty,(Builtin.append_ #[68,3] ty #[.slice none 0 0,.int .i64 (n:Int)]).run Tryz.prog w = _:=fun ty => Lib.run_append_nil_zeros w 68 3 ty 5 i0 (.int .u8 0) .i64 .i64 Tryz.underlying68 Tryz.underlying3 hi hz n (by omega) (by omega) (by omega) (by rw [hb]; omega)
 have hge:n≤grownCap w n 0 5:=grownCap_ge w _ _ _
 have hle:grownCap w n 0 5≤maxLen:=grownCap_le_maxLen w n 0 5 (by unfold maxLen; omega)
 generalize grownCap w n 0 5 = G at *
 have HO:Hid ((w.drew.alloc (.cells (Builtin.zeroCells (Value.int .u8 0).cells n ++ Builtin.zeroCells (Value.int .u8 0).cells (G - n)) 5)).ownsRow w.heap.size 5 1 (.slice (some ⟨w.heap.size,0,none⟩) 0 G) 0 []) :=
  World.ownsRow_made w.drew _ G (Nat.le_refl _) hle (by rw [Array.size_append,size_zeroCells,size_zeroCells]; show n * 1 + (G - n) * 1 = G * 1; omega)
 have HB:Hid (Below w.heap.size w (w.drew.alloc (.cells (Builtin.zeroCells (Value.int .u8 0).cells n ++ Builtin.zeroCells (Value.int .u8 0).cells (G - n)) 5))):=(Below.refl _ w).drew.alloc (Nat.le_refl _) _
 generalize w.drew.alloc (.cells (Builtin.zeroCells (Value.int .u8 0).cells n ++ Builtin.zeroCells (Value.int .u8 0).cells (G - n)) 5) = wz at *
 have hGi:(G:Int)≤9223372036854775807:=by unfold maxLen at hle; omega
 clear hi hz hs hb hle
 have x1:¬ (n:Int) < 0:=by omega
 have x2:(0:Int) < (n:Int):=by omega
 go_enter Tryz.func210,Tryz.ntmps210
 go_wp2_with (at_builtin; refine Lib.wpList_append_run _ rfl _ _ _ _ rfl _ _ rfl rfl _ _ (hrz _) ?_)
 go_ret
 exact ⟨⟨_,Nat.le_refl _,_,rfl,HO.out⟩,HB.out⟩
theorem size8:(Tryz.prog.info? 5).map (·.size) = some 1:=by kernel_rfl
def RetB2 (w w':World) (e:Ending) (n:Nat) (f:Nat→Nat) (t:Value):Prop:=∃ b c,(w.heap.size≤b∧n≤c)∧e = .returned (.tuple #[.slice (some ⟨b,0,none⟩) n c,t])∧Own8 w' b n f
end Go.Proofs.YtcpjeopnhgoonaaGreatDoor
