/-
  Texts of the proof, joined.
-/
import Derived.Test.YtcpjeopnhgoonaaGreatDoorF08
import Derived.LaidMore
import Derived.Carry
import Derived.OpenVars
import Derived.Stop.Joined
import Derived.Stop.LaidTwo
import Derived.SevenTiedAt
import Derived.SliceStrings
import Derived.Deep.SlicePairs
import Derived.Deep.Strs
import Derived.Test.YtcpjeopnhgoonaaGreatDoorF07
import Derived.LaidSub
namespace Go.Proofs.YtcpjeopnhgoonaaGreatDoor
open Go.ChangeShapes Go.WideShapes Go.ChangeAt Go.RowKit
set_option linter.unusedVariables false
theorem errRow (u : TypeId) (h : Tryz.prog.typeName? 3 u = some "*errors.errorString") : u = 290 :=
 typeName_ptr_named (nm := "errors.errorString") (by rw [show "*" ++ "errors.errorString" = "*errors.errorString" from by decide]; kernel_rfl) (by kernel_rfl) (by decide) u (by rw [show "*" ++ "errors.errorString" = "*errors.errorString" from by decide]; exact h)
theorem gFirst : Tryz.prog.globalNamed "loop.example/g00257/impl.firstDigest" = some 3 := by kernel_rfl
theorem gRound : Tryz.prog.globalNamed "loop.example/g00257/impl.roundWords" = some 6 := by kernel_rfl
theorem tFirst:(Tryz.prog.globals[3]?).map (·.type) = some 212:=by kernel_rfl
theorem tRound:(Tryz.prog.globals[6]?).map (·.type) = some 245:=by kernel_rfl
theorem cW32:Tryz.prog.cellsOf 177 = 1:=by kernel_rfl
def laid2 : List (String × DataW Unit) := [("loop.example/g00257/impl.firstDigest", Rows.laid_loop_example_g00257_impl_firstDigest), ("loop.example/g00257/impl.roundWords", Rows.laid_loop_example_g00257_impl_roundWords)]
theorem laid_first:(Rows.laid_loop_example_g00257_impl_firstDigest:DataW Unit) = .agg (Sha.hL.map fun n => .lit (.int .u32 (n:Nat))):=rfl
theorem laid_round:(Rows.laid_loop_example_g00257_impl_roundWords:DataW Unit) = .agg (Sha.kL.map fun n => .lit (.int .u32 (n:Nat))):=rfl
theorem words_of_trod {W:World} {n f:Nat} {t:TypeId} {L:List Nat} {cs:Array Value} {p:List MemPlace} (hu:Tryz.prog.underlying t = some (.array n 177))
  (hd:DataW.trod (fun _ => ()) Tryz.prog W 0 (fun _ => true) false f t cs.toList = some (.agg (L.map fun n => .lit (.int .u32 (n:Nat))),p)) (i:Nat) (hi:i < n):cs.toList[i]? = some (.int .u32 ((L.getD i 0:Nat):Int)):=by
 obtain ⟨xs,m1,rfl,hx1,hlen,hn3,hel⟩:=DataW.trod_array hu hd
 have h0:=hel i hi
 simp only [Prod.mk.injEq,DataW.agg.injEq] at hx1
 obtain ⟨b,hb⟩:∃ b,xs[i]? = some b:=⟨xs[i]'(by omega),List.getElem?_eq_getElem (by omega)⟩
 rw [hb,cW32] at h0
 obtain ⟨s,hcs,rfl,_⟩:=DataW.trod_int Tryz.underlying177 h0
 have h2:cs.toList[i]? = some (.int .u32 s):=by
  have:=congrArg (·[0]?) hcs
  simpa [List.getElem?_take,List.getElem?_drop] using this
 have h3:(xs.map (·.1))[i]? = some (DataW.lit (.int .u32 s)):=by simp [hb]
 rw [← hx1.1] at h3
 simp only [List.getElem?_map,Option.map_eq_some_iff,DataW.lit.injEq,Lit.int.injEq,true_and] at h3
 obtain ⟨s',hs',e⟩:=h3
 rw [h2,List.getD_eq_getElem?_getD,hs',Option.getD_some,e]
theorem tabs_of_laid {W:World} (h:laidMetH Tryz.prog laid2 W):Tabs W:=by
 rw [MakeChecks.laidMetH_plain _ _ _ (by kernel_rfl)] at h
 obtain ⟨ps,⟨g0,t0,cs0,f0,p0,q0,hg0,ht0,hv0,hd0,⟨g1,t1,cs1,f1,p1,q1,hg1,ht1,hv1,hd1,_,_⟩,_⟩,_,_⟩:=h
 obtain rfl:=Option.some.inj (gFirst.symm.trans hg0)
 obtain rfl:=Option.some.inj (tFirst.symm.trans ht0)
 obtain rfl:=Option.some.inj (gRound.symm.trans hg1)
 obtain rfl:=Option.some.inj (tRound.symm.trans ht1)
 rw [laid_first] at hd0
 rw [laid_round] at hd1
 refine ⟨fun i hi => ?_,fun i hi => ?_⟩
 ·have:=words_of_trod Tryz.underlying212 hd0 i hi
  rw [World.var?_cell hg0 hv0 i]
  simpa [Sha.h0] using this
 ·have:=words_of_trod Tryz.underlying245 hd1 i hi
  rw [World.var?_cell hg1 hv1 i]
  simpa [Sha.kc] using this
def laidE5 : List (String × DataW Unit) := [("loop.example/g00257/impl.errNoBlock", Rows.laid_loop_example_g00257_impl_errNoBlock), ("loop.example/g00257/impl.errLongBlock", Rows.laid_loop_example_g00257_impl_errLongBlock), ("loop.example/g00257/impl.errFullCache", Rows.laid_loop_example_g00257_impl_errFullCache), ("loop.example/g00257/impl.errNoneSaved", Rows.laid_loop_example_g00257_impl_errNoneSaved), ("loop.example/g00257/impl.errNoAct", Rows.laid_loop_example_g00257_impl_errNoAct)]
set_option maxRecDepth 100000 in
theorem errs5_of_laid {W:World} (h:laidMetH Tryz.prog laidE5 W):∃ p0 p1 p2 p3 p4:Addr,Errs W p0 p1 p2 p3 p4:=by
 rw [MakeChecks.laidMetH_plain _ _ _ (by kernel_rfl)] at h
 obtain ⟨ps,⟨g0,t0,cs0,f0,p0,q0,hg0,ht0,hv0,hd0,⟨g1,t1,cs1,f1,p1,q1,hg1,ht1,hv1,hd1,⟨g2,t2,cs2,f2,p2,q2,hg2,ht2,hv2,hd2,⟨g3,t3,cs3,f3,p3,q3,hg3,ht3,hv3,hd3,⟨g4,t4,cs4,f4,p4,q4,hg4,ht4,hv4,hd4,hq4,e4⟩,e3⟩,e2⟩,e1⟩,e0⟩,hnd,hrows⟩:=h
 obtain rfl := Option.some.inj ((show Tryz.prog.globalNamed "loop.example/g00257/impl.errNoBlock" = some 4 by kernel_rfl).symm.trans hg0)
 obtain rfl:=Option.some.inj ((show (Tryz.prog.globals[4]?).map (·.type) = some 93 by kernel_rfl).symm.trans ht0)
 obtain rfl := Option.some.inj ((show Tryz.prog.globalNamed "loop.example/g00257/impl.errLongBlock" = some 5 by kernel_rfl).symm.trans hg1)
 obtain rfl:=Option.some.inj ((show (Tryz.prog.globals[5]?).map (·.type) = some 93 by kernel_rfl).symm.trans ht1)
 obtain rfl := Option.some.inj ((show Tryz.prog.globalNamed "loop.example/g00257/impl.errFullCache" = some 1 by kernel_rfl).symm.trans hg2)
 obtain rfl:=Option.some.inj ((show (Tryz.prog.globals[1]?).map (·.type) = some 93 by kernel_rfl).symm.trans ht2)
 obtain rfl := Option.some.inj ((show Tryz.prog.globalNamed "loop.example/g00257/impl.errNoneSaved" = some 2 by kernel_rfl).symm.trans hg3)
 obtain rfl:=Option.some.inj ((show (Tryz.prog.globals[2]?).map (·.type) = some 93 by kernel_rfl).symm.trans ht3)
 obtain rfl := Option.some.inj ((show Tryz.prog.globalNamed "loop.example/g00257/impl.errNoAct" = some 0 by kernel_rfl).symm.trans hg4)
 obtain rfl:=Option.some.inj ((show (Tryz.prog.globals[0]?).map (·.type) = some 93 by kernel_rfl).symm.trans ht4)
 have hq4':q4 = []:=hq4
 subst hq4'
 subst e4
 subst e3
 subst e2
 subst e1
 subst e0
 obtain ⟨l0⟩:=cs0
 obtain ⟨l1⟩:=cs1
 obtain ⟨l2⟩:=cs2
 obtain ⟨l3⟩:=cs3
 obtain ⟨l4⟩:=cs4
 have ok0:∀ u v,l0 = [.iface u v]→Value.okWide Tryz.prog W .any 0 u v:=fun u v e => by
  subst e
  exact (hrows 4 0 (by simp [MemPlace.row])).2 u v (by simpa using World.var?_cell hg0 hv0 0)
 have ok1:∀ u v,l1 = [.iface u v]→Value.okWide Tryz.prog W .any 0 u v:=fun u v e => by
  subst e
  exact (hrows 5 0 (by simp [MemPlace.row])).2 u v (by simpa using World.var?_cell hg1 hv1 0)
 have ok2:∀ u v,l2 = [.iface u v]→Value.okWide Tryz.prog W .any 0 u v:=fun u v e => by
  subst e
  exact (hrows 1 0 (by simp [MemPlace.row])).2 u v (by simpa using World.var?_cell hg2 hv2 0)
 have ok3:∀ u v,l3 = [.iface u v]→Value.okWide Tryz.prog W .any 0 u v:=fun u v e => by
  subst e
  exact (hrows 2 0 (by simp [MemPlace.row])).2 u v (by simpa using World.var?_cell hg3 hv3 0)
 have ok4:∀ u v,l4 = [.iface u v]→Value.okWide Tryz.prog W .any 0 u v:=fun u v e => by
  subst e
  exact (hrows 0 0 (by simp [MemPlace.row])).2 u v (by simpa using World.var?_cell hg4 hv4 0)
 obtain ⟨a0,s0,rfl,hc0,hs0,hz0,rfl⟩:=errorString_of_trod Tryz.underlying93 errRow Tryz.underlying290 Tryz.underlying306 rfl rfl Tryz.underlying9 (by kernel_rfl) (by kernel_rfl) hd0 ok0
 obtain ⟨a1,s1,rfl,hc1,hs1,hz1,rfl⟩:=errorString_of_trod Tryz.underlying93 errRow Tryz.underlying290 Tryz.underlying306 rfl rfl Tryz.underlying9 (by kernel_rfl) (by kernel_rfl) hd1 ok1
 obtain ⟨a2,s2,rfl,hc2,hs2,hz2,rfl⟩:=errorString_of_trod Tryz.underlying93 errRow Tryz.underlying290 Tryz.underlying306 rfl rfl Tryz.underlying9 (by kernel_rfl) (by kernel_rfl) hd2 ok2
 obtain ⟨a3,s3,rfl,hc3,hs3,hz3,rfl⟩:=errorString_of_trod Tryz.underlying93 errRow Tryz.underlying290 Tryz.underlying306 rfl rfl Tryz.underlying9 (by kernel_rfl) (by kernel_rfl) hd3 ok3
 obtain ⟨a4,s4,rfl,hc4,hs4,hz4,rfl⟩:=errorString_of_trod Tryz.underlying93 errRow Tryz.underlying290 Tryz.underlying306 rfl rfl Tryz.underlying9 (by kernel_rfl) (by kernel_rfl) hd4 ok4
 have r0:ErrRow W a0:=(hrows a0.block a0.off (by simp [MemPlace.row])).1
 have r1:ErrRow W a1:=(hrows a1.block a1.off (by simp [MemPlace.row])).1
 have r2:ErrRow W a2:=(hrows a2.block a2.off (by simp [MemPlace.row])).1
 have r3:ErrRow W a3:=(hrows a3.block a3.off (by simp [MemPlace.row])).1
 have r4:ErrRow W a4:=(hrows a4.block a4.off (by simp [MemPlace.row])).1
 refine ⟨a0,a1,a2,a3,a4,by simpa [ErrAt] using World.var?_cell hg0 hv0 0,by simpa [ErrAt] using World.var?_cell hg1 hv1 0,by simpa [ErrAt] using World.var?_cell hg2 hv2 0,by simpa [ErrAt] using World.var?_cell hg3 hv3 0,by simpa [ErrAt] using World.var?_cell hg4 hv4 0,r0,r1,r2,r3,r4,?_⟩
 refine ⟨?_,?_,?_,?_,?_,?_,?_,?_,?_,?_⟩ <;> (rintro rfl; simp [MemPlace.row] at hnd)
def laidET7 : List (String × DataW Unit) := [("loop.example/g00257/impl.firstDigest", Rows.laid_loop_example_g00257_impl_firstDigest), ("loop.example/g00257/impl.roundWords", Rows.laid_loop_example_g00257_impl_roundWords), ("loop.example/g00257/impl.errNoBlock", Rows.laid_loop_example_g00257_impl_errNoBlock), ("loop.example/g00257/impl.errLongBlock", Rows.laid_loop_example_g00257_impl_errLongBlock), ("loop.example/g00257/impl.errFullCache", Rows.laid_loop_example_g00257_impl_errFullCache), ("loop.example/g00257/impl.errNoneSaved", Rows.laid_loop_example_g00257_impl_errNoneSaved), ("loop.example/g00257/impl.errNoAct", Rows.laid_loop_example_g00257_impl_errNoAct)]
theorem doorET7 (os:Os) (args:Array Value):laidMetH Tryz.prog laidET7 ((World.doorLaid Tryz.prog 400 os).forCall (fun _ _ => 0) ⟨#[],args,[]⟩).memory :=
 laidMetH_of_parts3 (fuel:=8) (laidMet_of_run' 8 (by kernel_rfl) (by kernel_rfl)) (by kernel_rfl) (by kernel_rfl)
def tabQ (x : String × DataW Unit) : Bool := x.1 == "loop.example/g00257/impl.firstDigest" || x.1 == "loop.example/g00257/impl.roundWords"
theorem tab_two:laidET7.filter tabQ = laid2:=by rfl
theorem tab_five:laidET7.filter (fun x => !tabQ x) = laidE5:=by rfl
theorem errsT7_of_laid {W:World} (h:laidMetH Tryz.prog laidET7 W):Tabs W∧∃ p0 p1 p2 p3 p4:Addr,Errs W p0 p1 p2 p3 p4 :=
 ⟨tabs_of_laid (tab_two ▸ h.filter tabQ),errs5_of_laid (tab_five ▸ h.filter fun x => !tabQ x)⟩
theorem varsT7_named {H:Type} {enc:TypeId × Value→H} {w:World} {spare:Nat→Bool} {gs:List (DataW H)} {ps:List MemPlace} {n0 n1 n2 n3 n4 n5 n6:String} (h:DataW.TrodVars enc Tryz.prog w spare [n0,n1,n2,n3,n4,n5,n6] gs ps):∃ d0 d1 d2 d3 d4 d5 d6,gs = [d0,d1,d2,d3,d4,d5,d6]:=by
 match gs,h with
 | [d0,d1,d2,d3,d4,d5,d6],_ => exact ⟨d0,d1,d2,d3,d4,d5,d6,rfl⟩
end Go.Proofs.YtcpjeopnhgoonaaGreatDoor
