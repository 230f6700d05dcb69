/-
  Texts of the proof, joined.
-/
import Derived.Test.YtcpjeopnhgoonaaGreatDoorF14
import Derived.Laws.Tables
import Derived.Test.YtcpjeopnhgoonaaGreatDoorTkH
import Derived.Test.YtcpjeopnhgoonaaGreatDoorChH
namespace Go.Proofs.YtcpjeopnhgoonaaGreatDoor
open Go.ChangeShapes Go.WideShapes Go.ChangeAt Go.RowKit
set_option linter.unusedVariables false
def cf (n:Nat) (K:Nat→Nat) (j:Nat):Value :=
 if j = 0 then .int .i64 (n:Nat) else if j < 241 then .int .u8 (K (j - 1):Nat) else if j < 497 then .int .u8 (Gf.sub (j - 241):Nat) else if j < 753 then .int .u8 (Gf.unsub (j - 497):Nat) else ordA.getD (j - 753) undef
def cA (n:Nat) (K:Nat→Nat):Array Value:=((List.range 769).map (cf n K)).toArray
theorem cA_size (n:Nat) (K:Nat→Nat):(cA n K).size = 769:=by simp [cA]
theorem cA_len (n:Nat) (K:Nat→Nat):(cA n K).toList.length = 769:=by simp [cA]
theorem cA_at {n:Nat} {K:Nat→Nat} {k:Nat} (h:k < 769):(cA n K)[k]? = some (cf n K k):=by simp [cA,h]
theorem cf_one (n:Nat) (K:Nat→Nat) (j:Nat) (h:j < 769):(cf n K j).oneCell' = true:=by
 unfold cf
 split
 ·rfl
 ·split
  ·rfl
  ·split
   ·rfl
   ·split
    ·rfl
    ·have:∀ k,k < 16→(ordA.getD k undef).oneCell' = true:=by decide
     exact this _ (by omega)
theorem cA_one (n:Nat) (K:Nat→Nat):(cA n K).all (·.oneCell') = true:=all_oneCell_toArray (fun v hv => by
 obtain ⟨i,hi,rfl⟩:=List.mem_map.1 hv
 exact cf_one _ _ _ (List.mem_range.1 hi))
theorem foldl_set (off:Nat):∀ (vs:List Value) (k:Nat) (cells:Array Value) (i:Nat),
  ((vs.zipIdx k).foldl (fun cs (x:Value × Nat) => cs.setIfInBounds (off + x.2) x.1) cells)[i]? = if off + k≤i∧i < off + k + vs.length∧i < cells.size then vs[i - (off + k)]? else cells[i]?:=by
 intro vs
 induction vs with
 | nil => intro k cells i; rw [if_neg (by simp; omega)]; rfl
 | cons v vs ih =>
  intro k cells i
  rw [List.zipIdx_cons,List.foldl_cons,ih]
  rw [Array.size_setIfInBounds]
  by_cases h1:off + (k + 1)≤i∧i < off + (k + 1) + vs.length∧i < cells.size
  ·rw [if_pos h1,if_pos (by simp; omega),show i - (off + k) = (i - (off + (k + 1))) + 1 from by omega,List.getElem?_cons_succ]
  ·rw [if_neg h1,Array.getElem?_setIfInBounds]
   by_cases h2:off + k = i
   ·subst h2
    rw [if_pos rfl]
    by_cases h3:off + k < cells.size
    ·rw [if_pos h3,if_pos (by simp; omega)]; simp
    ·rw [if_neg h3,if_neg (by omega)]
     exact (Array.getElem?_eq_none (by omega)).symm
   ·rw [if_neg h2,if_neg (by simp; omega)]
def laid (off:Nat) (vs:Array Value) (cells:Array Value):Array Value:=vs.zipIdx.foldl (fun cs (x:Value × Nat) => cs.setIfInBounds (off + x.2) x.1) cells
theorem laid_at (off:Nat) (vs cells:Array Value) (i:Nat):(laid off vs cells)[i]? = if off≤i∧i < off + vs.size∧i < cells.size then vs[i - off]? else cells[i]?:=by
 unfold laid
 rw [← Array.foldl_toList,Array.toList_zipIdx]
 have:=foldl_set off vs.toList 0 cells i
 simpa using this
theorem laid_size (off:Nat) (vs cells:Array Value):(laid off vs cells).size = cells.size:=by
 unfold laid
 rw [← Array.foldl_toList]
 generalize vs.zipIdx.toList = l
 induction l generalizing cells with
 | nil => rfl
 | cons x l ih => rw [List.foldl_cons,ih,Array.size_setIfInBounds]
theorem fill_cons (place:Nat→Option (Nat × Nat)) (cells:Array Value) (i:Nat) (v:Value) (rest:List (Nat × Value)) {off size:Nat} (hp:place i = some (off,size)) (hs:v.cells.size = size) (hf:off + size≤cells.size) :
  Instr.fill place cells ((i,v) :: rest) = Instr.fill place (laid off v.cells cells) rest:=by
 rw [Instr.fill,hp]
 simp only [hs]
 rw [if_neg (by simp; omega)]
 rfl
theorem built_struct {P:Program} {t:TypeId} {it:TypeInfo} {z:Value} {fs:Array Field} {places:List (Nat × Nat)} (hi:P.info? t = some it) (hz:it.zero = some z) (hu:P.underlying t = some (.struct fs))
  (hp:fs.toList.mapM (fun f => (P.info? f.type).map fun i => (f.offset,i.size)) = some places) (parts:List (Nat × Value)):P.built t parts = Instr.fill (places.toArray[·]?) z.cells parts:=by
 simp [Program.built,hi,hz,hu,hp]
theorem Tryz.infoC:(Tryz.prog.info? 262).map (fun i => (i.zero.map (fun z => (z.cells.size,match z with | .agg _ => true | _ => false)),i.size)) = some (some (769,true),769):=by kernel_rfl
theorem Tryz.sizeC:(Tryz.prog.info? 262).map (·.size) = some 769:=by
 have h:=Tryz.infoC
 cases hq:Tryz.prog.info? 262 with
 | none => simp [hq] at h
 | some i => simp [hq] at h ⊢; exact h.2
theorem Tryz.placesC:(match Tryz.prog.underlying 262 with | some (.struct fs) => fs.toList.mapM (fun f => (Tryz.prog.info? f.type).map fun i => (f.offset,i.size)) | _ => none) = some [(0,1),(1,240),(241,256),(497,256),(753,16)]:=by kernel_rfl
theorem Tryz.zeroC:∃ Z:Array Value,(∀ w,(zeroValue 262).run Tryz.prog w = .ok (.agg Z) w)∧Z.size = 769∧(∃ it,Tryz.prog.info? 262 = some it∧it.zero = some (.agg Z)):=by
 have h:=Tryz.infoC
 cases hq:Tryz.prog.info? 262 with
 | none => simp [hq] at h
 | some i =>
  simp only [hq,Option.map_some,Option.some.injEq,Prod.mk.injEq] at h
  cases hz:i.zero with
  | none => simp [hz] at h
  | some z =>
   simp only [hz,Option.map_some,Option.some.injEq,Prod.mk.injEq] at h
   cases z with
   | agg Z => exact ⟨Z,fun w => by simp [zeroValue,typeInfo,hq,hz],h.1.1,i,rfl,hz⟩
   | _ => simp at h
theorem cells_agg (A:Array Value):(Value.agg A).cells = A:=rfl
theorem cells_int (k:IntKind) (v:Int):(Value.int k v).cells = #[.int k v]:=rfl
theorem laid_cipher (n:Nat) (K:Nat→Nat) (Z:Array Value) (hs:Z.size = 769):laid 753 ordA (laid 497 (bA 256 Gf.unsub) (laid 241 (bA 256 Gf.sub) (laid 1 (bA 240 K) (laid 0 #[.int .i64 (n:Nat)] Z)))) = cA n K:=by
 apply Array.ext_getElem?
 intro i
 rw [laid_at,laid_at,laid_at,laid_at,laid_at]
 simp only [laid_size,bA_size,hs,show ordA.size = 16 from rfl]
 by_cases hi:i < 769
 ·rw [cA_at hi]
  unfold cf
  by_cases h4:753≤i
  ·rw [if_pos (by omega),if_neg (by omega),if_neg (by omega),if_neg (by omega),if_neg (by omega)]
   rw [Array.getD_eq_getD_getElem?]
   have:∀ k,k < 16→(ordA[k]?).isSome = true:=by decide
   obtain ⟨v,hv⟩:=Option.isSome_iff_exists.1 (this (i - 753) (by omega))
   rw [hv]; rfl
  ·rw [if_neg (by omega)]
   by_cases h3:497≤i
   ·rw [if_pos (by omega),if_neg (by omega),if_neg (by omega),if_neg (by omega),if_pos (by omega),bA_at (by omega)]
   ·rw [if_neg (by omega)]
    by_cases h2:241≤i
    ·rw [if_pos (by omega),if_neg (by omega),if_neg (by omega),if_pos (by omega),bA_at (by omega)]
    ·rw [if_neg (by omega)]
     by_cases h1:1≤i
     ·rw [if_pos (by omega),if_neg (by omega),if_pos (by omega),bA_at (by omega)]
     ·obtain rfl:i = 0:=by omega
      simp
 ·rw [if_neg (by omega),if_neg (by omega),if_neg (by omega),if_neg (by omega),if_neg (by omega)]
  rw [Array.getElem?_eq_none (by omega),Array.getElem?_eq_none (by rw [cA_size]; omega)]
theorem structC:∃ fs,Tryz.prog.underlying 262 = some (.struct fs)∧fs.toList.mapM (fun f => (Tryz.prog.info? f.type).map fun i => (f.offset,i.size)) = some [(0,1),(1,240),(241,256),(497,256),(753,16)]:=by
 have hp:=Tryz.placesC
 generalize Tryz.prog.underlying 262 = u at hp
 match u,hp with
 | some (.struct fs),hp => exact ⟨fs,rfl,hp⟩
theorem built_cipher (n:Nat) (K:Nat→Nat):Tryz.prog.built 262 [(0,.int .i64 (n:Nat)),(1,.agg (bA 240 K)),(2,.agg (bA 256 Gf.sub)),(3,.agg (bA 256 Gf.unsub)),(4,.agg ordA)] = some (cA n K):=by
 obtain ⟨Z,-,hs,it,hi,hz⟩:=Tryz.zeroC
 obtain ⟨fs,hu,hp⟩:=structC
 rw [built_struct hi hz hu hp]
 rw [fill_cons (off:=0) (size:=1) _ _ _ _ _ rfl rfl (by show 0 + 1≤Z.size; omega)]
 rw [fill_cons (off:=1) (size:=240) _ _ _ (.agg (bA 240 K)) _ rfl (bA_size _ _) (by rw [laid_size]; show 1 + 240≤Z.size; omega)]
 rw [fill_cons (off:=241) (size:=256) _ _ _ (.agg (bA 256 Gf.sub)) _ rfl (bA_size _ _) (by rw [laid_size,laid_size]; show 241 + 256≤Z.size; omega)]
 rw [fill_cons (off:=497) (size:=256) _ _ _ (.agg (bA 256 Gf.unsub)) _ rfl (bA_size _ _) (by rw [laid_size,laid_size,laid_size]; show 497 + 256≤Z.size; omega)]
 rw [fill_cons (off:=753) (size:=16) _ _ _ _ _ rfl rfl (by rw [laid_size,laid_size,laid_size,laid_size]; show 753 + 16≤Z.size; omega)]
 rw [cells_agg,cells_agg,cells_agg,cells_agg,cells_agg,cells_int,laid_cipher n K Z hs]
 rfl
theorem run_cipher (n:Nat) (K:Nat→Nat) (w:World):(Instr.build 262 #[(0,.int .i64 (n:Nat)),(1,.agg (bA 240 K)),(2,.agg (bA 256 Gf.sub)),(3,.agg (bA 256 Gf.unsub)),(4,.agg ordA)]).run Tryz.prog w = .ok (.agg (cA n K)) w :=
 run_build w _ _ _ (built_cipher n K)
theorem there_big (w:World) (A:Array Value) (t:TypeId) {n:Nat} (hn:A.size = n):(w.alloc (.cells A t)).there w.heap.size 0 n:=by subst hn; exact there_alloc w A t
theorem size_setCells {b:Nat} (vs:List Value):∀ (o:Nat) (w:World),(w.setCells b o vs).heap.size = w.heap.size:=by
 induction vs with
 | nil => intro o w; rfl
 | cons v vs ih => intro o w; exact (ih (o + 1) _).trans (by simp)
theorem nc_drew {B C:Nat} {w w':World} {SL:List Value} (h:w'.rangeAt B 0 SL∧w'.there C 0 769∧Below C w w'∧B < w'.heap.size):w'.drew.rangeAt B 0 SL∧w'.drew.there C 0 769∧Below C w w'.drew∧B < w'.drew.heap.size :=
 ⟨h.1,h.2.1,h.2.2.1.drew,h.2.2.2⟩
theorem nc_below {B C:Nat} {w w' w'':World} {SL:List Value} (h:w'.rangeAt B 0 SL∧w'.there C 0 769∧Below C w w'∧B < w'.heap.size) (hC:C < B) (hb:Below w'.heap.size w' w''):w''.rangeAt B 0 SL∧w''.there C 0 769∧Below C w w''∧B < w''.heap.size :=
 ⟨range_below h.1 hb,there_below h.2.1 (by omega) hb,h.2.2.1.trans (hb.mono (by omega)),by have:=hb.size; omega⟩
theorem nc_store {B C:Nat} {w w':World} {SL:List Value} (h:w'.rangeAt B 0 SL∧w'.there C 0 769∧Below C w w'∧B < w'.heap.size) (hC:C < B) (vs:List Value):(w'.setCells C 0 vs).rangeAt B 0 SL∧(w'.setCells C 0 vs).there C 0 769∧Below C w (w'.setCells C 0 vs)∧B < (w'.setCells C 0 vs).heap.size :=
 ⟨World.rangeAt_setCells_apart h.1 _ _ _ (by omega),World.there_setCells h.2.1 _ _ _,below_setCells (Nat.le_refl _) _ _ _ h.2.2.1,by rw [size_setCells]; exact h.2.2.2⟩
def NCH (B C:Nat) (w:World) (SL:List Value) (w':World):Prop:=w'.rangeAt B 0 SL∧w'.there C 0 769∧Below C w w'∧B < w'.heap.size
theorem NCH.below {B C:Nat} {w w' w'':World} {SL:List Value} (h:NCH B C w SL w') (hC:C < B) (hb:Below w'.heap.size w' w''):NCH B C w SL w'':=nc_below h hC hb
theorem NCH.store {B C:Nat} {w w':World} {SL:List Value} (h:NCH B C w SL w') (hC:C < B) (vs:List Value):NCH B C w SL (w'.setCells C 0 vs):=nc_store h hC vs
theorem NCH.range {B C:Nat} {w w':World} {SL:List Value} (h:NCH B C w SL w'):w'.rangeAt B 0 SL:=h.1
theorem NCH.there {B C:Nat} {w w':World} {SL:List Value} (h:NCH B C w SL w') {CL:List Value} (hl:CL.length = 769):w'.there C 0 CL.toArray.size:=by
 rw [List.size_toArray,hl]; exact h.2.1
theorem yieldsIf_build {P:Program} {ops:Array Oper} {S:World→Prop} {op:Oper} {a:Act} (hw:Region.wanted op (yielded ops a.tmps) = true) (t:TypeId) (parts:Array (Nat × Operand)) (ho:op.op = .build t parts)
  (v:Value) (hb:∀ w,(Instr.build t (parts.map fun (i,x) => (i,a.eval x))).run P w = .ok v w):YieldsIf P ops S op v a :=
 .inl ⟨hw,fun w _ => by
  unfold execOp
  simp only [ho,Sem.run_bind,hb,Result.andThen_ok]
  rfl⟩
set_option maxRecDepth 100000 in
set_option maxHeartbeats 4000000 in
theorem newCipher_any (s:ByteArray) (n:Nat) (hn:n = 4∨n = 8) (hs:s.size = n * 4) (w:World) :
  Calls Tryz.prog 205 #[.string s] w fun e w' => e = .returned (.agg (cA (n + 6) (Gf.ws (strB s) n (3 * n + 28))))∧Below w.heap.size w w':=by
 obtain ⟨Z,z0,hZ,-⟩:=Tryz.zeroC
 have z1:=Tryz.zero256
 have hbuild:=run_cipher (n + 6) (Gf.ws (strB s) n (3 * n + 28))
 have RK:Hid (∀ w:World,Calls Tryz.prog 218 #[.string s,.agg (bA 256 Gf.sub)] w fun e w' => e = .returned (.agg (bA 240 (Gf.ws (strB s) n (3 * n + 28))))∧Below w.heap.size w w'):=roundKeys_any s n hn hs
 have BW:Hid (∀ w:World,Calls Tryz.prog 219 #[.agg (bA 256 Gf.sub)] w fun e w' => e = .returned (.agg (bA 256 Gf.unsub))∧Below w.heap.size w w'):=backwards_any
 have RO:Hid (∀ w:World,Calls Tryz.prog 220 #[] w fun e w' => e = .returned (.agg ordA)∧Below w.heap.size w w'):=rowOrder_any
 have SU:Hid (∀ w:World,Calls Tryz.prog 217 #[] w fun e w' => e = .returned (.agg (bA 256 Gf.sub))∧Below w.heap.size w w'):=substitutes_any
 have S1:Hid ((Tryz.prog.info? 259).map (·.size) = some (bA 256 Gf.sub).size):=by rw [bA_size]; exact Tryz.size256
 have O1:Hid ((bA 256 Gf.sub).all (·.oneCell') = true):=bA_one _ _
 have S2:Hid ((Tryz.prog.info? 262).map (·.size) = some (cA (n + 6) (Gf.ws (strB s) n (3 * n + 28))).size):=by rw [cA_size]; exact Tryz.sizeC
 have O2:Hid ((cA (n + 6) (Gf.ws (strB s) n (3 * n + 28))).all (·.oneCell') = true):=cA_one _ _
 have hs':(s.size:Int) / 4 + 6 = ((n + 6:Nat):Int):=by omega
 have hs2:(s.size:Int) = ((n * 4:Nat):Int):=by omega
 have T0:Hid ((w.alloc (.cells Z 262)).there w.heap.size 0 769):=there_big w Z _ hZ
 go_enter Tryz.func205,Tryz.ntmps205
 go_wp2_with (first
  | (go_at_call 217; refine (SU.out _).mono ?_; rintro e w1 ⟨rfl,hb⟩)
  | (refine wpList_store_mid rfl 259 (.tmp 3) (.tmp 4) rfl _ 0 (bA 256 Gf.sub) rfl rfl ?_ S1.out O1.out ?_))
 ·rw [bA_size]; exact (Row8.zeros w1 _ 256).there
 ·rw [bA_toList]
  have R1:(( w1.alloc (.cells (Array.replicate 256 (.int .u8 0)) 259)).setCells w1.heap.size 0 (bv 256 Gf.sub)).rangeAt w1.heap.size 0 (bv 256 Gf.sub):=((Row8.zeros w1 259 256).stored Gf.sub).range
  have hsz:(w.alloc (.cells Z 262)).heap.size = w.heap.size + 1:=by simp
  have hw1:w.heap.size + 1≤w1.heap.size:=by have:=hb.size; omega
  have R2:((w1.alloc (.cells (Array.replicate 256 (.int .u8 0)) 259)).setCells w1.heap.size 0 (bv 256 Gf.sub)).there w.heap.size 0 769:=World.there_setCells (World.there_alloc (there_below T0.out (by omega) hb) _) _ _ _
  have R3:Below w.heap.size w ((w1.alloc (.cells (Array.replicate 256 (.int .u8 0)) 259)).setCells w1.heap.size 0 (bv 256 Gf.sub)):=below_setCells (by omega) _ _ _ ((((Below.refl _ _).alloc (Nat.le_refl _) _).trans (hb.mono (by omega))).alloc (by omega) _)
  have R4:w1.heap.size < ((w1.alloc (.cells (Array.replicate 256 (.int .u8 0)) 259)).setCells w1.heap.size 0 (bv 256 Gf.sub)).heap.size:=by rw [size_setCells]; simp
  clear hb hsz T0 z0 z1 SU S1 O1
  generalize (w1.alloc (.cells (Array.replicate 256 (.int .u8 0)) 259)).setCells w1.heap.size 0 (bv 256 Gf.sub) = wz at *
  generalize w1.heap.size = B at *
  have L2:(Tryz.prog.info? 259).map (·.size) = some (bv 256 Gf.sub).length:=by rw [bv_length]; exact Tryz.size256
  have L3:(bv 256 Gf.sub).length = 256:=bv_length _ _
  have L5:(Tryz.prog.info? 262).map (·.size) = some (cA (n + 6) (Gf.ws (strB s) n (3 * n + 28))).toList.length:=by rw [cA_len]; exact Tryz.sizeC
  have L6:(cA (n + 6) (Gf.ws (strB s) n (3 * n + 28))).toList.length = 769:=cA_len _ _
  have L7:∀ v ∈ (cA (n + 6) (Gf.ws (strB s) n (3 * n + 28))).toList,v.oneCell' = true:=fun v hv => by
   obtain ⟨i,hi,rfl⟩:=List.mem_map.1 hv
   exact cf_one _ _ _ (List.mem_range.1 hi)
  have eC:cA (n + 6) (Gf.ws (strB s) n (3 * n + 28)) = (cA (n + 6) (Gf.ws (strB s) n (3 * n + 28))).toList.toArray:=rfl
  rw [eC] at hbuild
  clear eC S2 O2
  have U1:=Tryz.underlying259
  have eA:(bv 256 Gf.sub).toArray = bA 256 Gf.sub:=rfl
  generalize hCA:(cA (n + 6) (Gf.ws (strB s) n (3 * n + 28))).toList = CL at *
  have HCA:Hid ((cA (n + 6) (Gf.ws (strB s) n (3 * n + 28))).toList = CL):=hCA
  clear hCA
  generalize bA 240 (Gf.ws (strB s) n (3 * n + 28)) = KA at *
  generalize bA 256 Gf.unsub = UA at *
  generalize bA 256 Gf.sub = SA at *
  generalize bv 256 Gf.sub = SL at *
  generalize ordA = OA at *
  subst eA
  have H:NCH B w.heap.size w SL wz.drew:=nc_drew ⟨R1,R2,R3,R4⟩
  clear R1 R2 R3 R4
  have q1:IntKind.i64.wrap (n:Int) = n:=IntWalk.i64_in _ ⟨by omega,by omega⟩
  have q2:IntKind.i64.wrap ((n:Int) + 6) = n + 6:=IntWalk.i64_in _ ⟨by omega,by omega⟩
  have hbuild':∀ w:World,(Instr.build 262 #[(0,.int .i64 ((n:Int) + 6)),(1,.agg KA),(2,.agg SL.toArray),(3,.agg UA),(4,.agg OA)]).run Tryz.prog w = .ok (.agg CL.toArray) w:=hbuild
  clear hbuild
  refine wp_region_noPanic ?_
  refine wp_region_held_drew (S:=NCH B w.heap.size w SL) (by kernel_rfl) H (fun _ => ?_)
  refine tkH (i:=0) (v:=.string s) rfl (by kernel_rfl) (by rfl) ?_ H ?_
  ·intro w hSw; go_simp
  change wpAnyH _ _ _ _ _ _ _ { tmps:=#[.string s,undef,.pointer (some ⟨w.heap.size,0,none⟩),.pointer (some ⟨B,0,none⟩),.agg SL.toArray,.string s,undef,undef,undef,undef,undef,undef,undef,undef,undef,undef,undef],defers:=[] } _
  refine tkH (i:=1) (v:=.int .i64 ((n:Int) * 4)) rfl (by kernel_rfl) (by rfl) ?_ H ?_
  ·intro w hSw; go_simp
  change wpAnyH _ _ _ _ _ _ _ { tmps:=#[.string s,undef,.pointer (some ⟨w.heap.size,0,none⟩),.pointer (some ⟨B,0,none⟩),.agg SL.toArray,.string s,.int .i64 ((n:Int) * 4),undef,undef,undef,undef,undef,undef,undef,undef,undef,undef],defers:=[] } _
  refine tkH (i:=2) (v:=.int .i64 (n:Nat)) rfl (by kernel_rfl) (by rfl) ?_ H ?_
  ·intro w hSw; go_simp
  change wpAnyH _ _ _ _ _ _ _ { tmps:=#[.string s,undef,.pointer (some ⟨w.heap.size,0,none⟩),.pointer (some ⟨B,0,none⟩),.agg SL.toArray,.string s,.int .i64 ((n:Int) * 4),.int .i64 (n:Nat),undef,undef,undef,undef,undef,undef,undef,undef,undef],defers:=[] } _
  refine tkH (i:=3) (v:=.int .i64 ((n:Int) + 6)) rfl (by kernel_rfl) (by rfl) ?_ H ?_
  ·intro w hSw; go_simp
  change wpAnyH _ _ _ _ _ _ _ { tmps:=#[.string s,undef,.pointer (some ⟨w.heap.size,0,none⟩),.pointer (some ⟨B,0,none⟩),.agg SL.toArray,.string s,.int .i64 ((n:Int) * 4),.int .i64 (n:Nat),.int .i64 ((n:Int) + 6),undef,undef,undef,undef,undef,undef,undef,undef],defers:=[] } _
  refine tkH (i:=4) (v:=.string s) rfl (by kernel_rfl) (by rfl) ?_ H ?_
  ·intro w hSw; go_simp
  change wpAnyH _ _ _ _ _ _ _ { tmps:=#[.string s,undef,.pointer (some ⟨w.heap.size,0,none⟩),.pointer (some ⟨B,0,none⟩),.agg SL.toArray,.string s,.int .i64 ((n:Int) * 4),.int .i64 (n:Nat),.int .i64 ((n:Int) + 6),.string s,undef,undef,undef,undef,undef,undef,undef],defers:=[] } _
  refine wpAnyH_take (i:=5) (v:=.agg SL.toArray) rfl (by kernel_rfl) (by kernel_rfl) (by kernel_rfl) (fun _ _ _ h => h) (yieldsIf_load_mid (by rfl) 259 (.tmp 3) rfl B 0 rfl SL _ (fun w h => NCH.range h) U1 rfl L2) H ?_
  change wpAnyH _ _ _ _ _ _ _ { tmps:=#[.string s,undef,.pointer (some ⟨w.heap.size,0,none⟩),.pointer (some ⟨B,0,none⟩),.agg SL.toArray,.string s,.int .i64 ((n:Int) * 4),.int .i64 (n:Nat),.int .i64 ((n:Int) + 6),.string s,.agg SL.toArray,undef,undef,undef,undef,undef,undef],defers:=[] } _
  refine wpAnyH_take (i:=7) (v:=.agg SL.toArray) rfl (by kernel_rfl) (by kernel_rfl) (by kernel_rfl) (fun _ _ _ h => h) (yieldsIf_load_mid (by rfl) 259 (.tmp 3) rfl B 0 rfl SL _ (fun w h => NCH.range h) U1 rfl L2) H ?_
  change wpAnyH _ _ _ _ _ _ _ { tmps:=#[.string s,undef,.pointer (some ⟨w.heap.size,0,none⟩),.pointer (some ⟨B,0,none⟩),.agg SL.toArray,.string s,.int .i64 ((n:Int) * 4),.int .i64 (n:Nat),.int .i64 ((n:Int) + 6),.string s,.agg SL.toArray,undef,.agg SL.toArray,undef,undef,undef,undef],defers:=[] } _
  refine wpAnyH_take (i:=8) (v:=.agg SL.toArray) rfl (by kernel_rfl) (by kernel_rfl) (by kernel_rfl) (fun _ _ _ h => h) (yieldsIf_load_mid (by rfl) 259 (.tmp 3) rfl B 0 rfl SL _ (fun w h => NCH.range h) U1 rfl L2) H ?_
  change wpAnyH _ _ _ _ _ _ _ { tmps:=#[.string s,undef,.pointer (some ⟨w.heap.size,0,none⟩),.pointer (some ⟨B,0,none⟩),.agg SL.toArray,.string s,.int .i64 ((n:Int) * 4),.int .i64 (n:Nat),.int .i64 ((n:Int) + 6),.string s,.agg SL.toArray,undef,.agg SL.toArray,.agg SL.toArray,undef,undef,undef],defers:=[] } _
  refine wpAnyH_ready (rs:=[6]) (by kernel_rfl) (by simp) ?_
  refine AllReadyH.cons rfl (fun K hK => ?_) AllReadyH.nil
  go_simp
  refine (RK.out _).mono ?_
  rintro e w1 ⟨rfl,hb⟩
  replace H:=NCH.below H (by omega) hb
  refine hK.out _ _ H (fun _ => ?_)
  clear hK K hb
  change wpAnyH _ _ _ _ _ _ _ { tmps:=#[.string s,undef,.pointer (some ⟨w.heap.size,0,none⟩),.pointer (some ⟨B,0,none⟩),.agg SL.toArray,.string s,.int .i64 ((n:Int) * 4),.int .i64 (n:Nat),.int .i64 ((n:Int) + 6),.string s,.agg SL.toArray,.agg KA,.agg SL.toArray,.agg SL.toArray,undef,undef,undef],defers:=[] } _
  refine wpAnyH_ready (rs:=[9]) (by kernel_rfl) (by simp) ?_
  refine AllReadyH.cons rfl (fun K hK => ?_) AllReadyH.nil
  go_simp
  refine (BW.out _).mono ?_
  rintro e w1 ⟨rfl,hb⟩
  replace H:=NCH.below H (by omega) hb
  refine hK.out _ _ H (fun _ => ?_)
  clear hK K hb
  change wpAnyH _ _ _ _ _ _ _ { tmps:=#[.string s,undef,.pointer (some ⟨w.heap.size,0,none⟩),.pointer (some ⟨B,0,none⟩),.agg SL.toArray,.string s,.int .i64 ((n:Int) * 4),.int .i64 (n:Nat),.int .i64 ((n:Int) + 6),.string s,.agg SL.toArray,.agg KA,.agg SL.toArray,.agg SL.toArray,.agg UA,undef,undef],defers:=[] } _
  refine wpAnyH_ready (rs:=[10]) (by kernel_rfl) (by simp) ?_
  refine AllReadyH.cons rfl (fun K hK => ?_) AllReadyH.nil
  go_simp
  refine (RO.out _).mono ?_
  rintro e w1 ⟨rfl,hb⟩
  replace H:=NCH.below H (by omega) hb
  refine hK.out _ _ H (fun _ => ?_)
  clear hK K hb
  change wpAnyH _ _ _ _ _ _ _ { tmps:=#[.string s,undef,.pointer (some ⟨w.heap.size,0,none⟩),.pointer (some ⟨B,0,none⟩),.agg SL.toArray,.string s,.int .i64 ((n:Int) * 4),.int .i64 (n:Nat),.int .i64 ((n:Int) + 6),.string s,.agg SL.toArray,.agg KA,.agg SL.toArray,.agg SL.toArray,.agg UA,.agg OA,undef],defers:=[] } _
  refine wpAnyH_take (i:=11) (v:=.agg CL.toArray) rfl (by kernel_rfl) (by kernel_rfl) (by kernel_rfl) (fun _ _ _ h => h) (yieldsIf_build (by rfl) 262 #[(0,.tmp 8),(1,.tmp 11),(2,.tmp 12),(3,.tmp 14),(4,.tmp 15)] rfl _ (by intro w; simp only [List.map_toArray,List.map_cons,List.map_nil]; exact hbuild' w)) H ?_
  change wpAnyH _ _ _ _ _ _ _ { tmps:=#[.string s,undef,.pointer (some ⟨w.heap.size,0,none⟩),.pointer (some ⟨B,0,none⟩),.agg SL.toArray,.string s,.int .i64 ((n:Int) * 4),.int .i64 (n:Nat),.int .i64 ((n:Int) + 6),.string s,.agg SL.toArray,.agg KA,.agg SL.toArray,.agg SL.toArray,.agg UA,.agg OA,.agg CL.toArray],defers:=[] } _
  refine wpAnyH_ready (rs:=[12]) (by kernel_rfl) (by simp) ?_
  refine AllReadyH.cons rfl (fun K hK => ?_) AllReadyH.nil
  rw [if_pos (by rfl)]
  refine wp_store_mid 262 (.tmp 2) (.tmp 16) rfl w.heap.size 0 CL.toArray rfl rfl (H.there L6) L5 (all_oneCell_toArray L7) ?_
  have T:=H.there L6
  replace H:=NCH.store H (by omega) CL
  refine hK.out _ _ H (fun _ => ?_)
  clear hK K
  refine wpAnyH_done (by kernel_rfl) ?_ _
  refine NoPanic.normal ?_
  change Exit.then _ _ Exit.normal { tmps:=#[.string s,undef,.pointer (some ⟨w.heap.size,0,none⟩),.pointer (some ⟨B,0,none⟩),.agg SL.toArray,.string s,.int .i64 ((n:Int) * 4),.int .i64 (n:Nat),.int .i64 ((n:Int) + 6),.string s,.agg SL.toArray,.agg KA,.agg SL.toArray,.agg SL.toArray,.agg UA,.agg OA,.agg CL.toArray],defers:=[] } _
  have eL:CL.toArray.toList = CL:=rfl
  rw [eL] at *
  have hL:(w1.setCells w.heap.size 0 CL).rangeAt w.heap.size 0 CL:=World.rangeAt_setCells_same w1 w.heap.size 0 CL T
  have Bo:=H.2.2.1
  go_wp2
  rw [show cA (n + 6) (Gf.ws (strB s) n (3 * n + 28)) = CL.toArray from by rw [← HCA.out]]
  obtain ⟨fs,hu,-⟩:=structC
  have Lo:(loadVar 262 ⟨w.heap.size,0,none⟩).run Tryz.prog (w1.setCells w.heap.size 0 CL) = .ok (.agg CL.toArray) (w1.setCells w.heap.size 0 CL):=run_loadVar_mid _ w.heap.size 0 262 CL _ hL hu rfl L5
  exact bodyPost_ret (v:=.agg CL.toArray) (results_cell_one (b:=w.heap.size) (o:=0) Tryz.results205 _ _ _ rfl Lo) rfl ⟨rfl,Bo⟩
theorem ordA_ord (k:Nat) (hk:k < 16):ordA[k]? = some (.int .i64 (Gf.ord k:Nat)):=by
 rcases (show k = 0∨k = 1∨k = 2∨k = 3∨k = 4∨k = 5∨k = 6∨k = 7∨k = 8∨k = 9∨k = 10∨k = 11∨k = 12∨k = 13∨k = 14∨k = 15 by omega) with rfl | rfl | rfl | rfl | rfl | rfl | rfl | rfl | rfl | rfl | rfl | rfl | rfl | rfl | rfl | rfl <;> rfl
def CiphAt (w:World) (C m:Nat) (K:Nat→Nat):Prop:=∀ k,k < 769→w.cell? ⟨C,k,none⟩ = some (cf m K k)
theorem CiphAt.lt {w:World} {C m:Nat} {K:Nat→Nat} (h:CiphAt w C m K):C < w.heap.size:=by
 have:=h 0 (by omega)
 rcases Nat.lt_or_ge C w.heap.size with g | g
 ·exact g
 ·simp [World.cell?,Array.getElem?_eq_none g] at this
theorem CiphAt.below {w w':World} {C m:Nat} {K:Nat→Nat} (h:CiphAt w C m K) (hb:Below w.heap.size w w'):CiphAt w' C m K:=fun k hk => by
 rw [hb.cell (p:=⟨C,k,none⟩) h.lt]; exact h k hk
theorem CiphAt.belowOf {B:Nat} {w w':World} {C m:Nat} {K:Nat→Nat} (h:CiphAt w C m K) (hb:Below B w w') (hB:C < B):CiphAt w' C m K:=fun k hk => by
 rw [hb.cell (p:=⟨C,k,none⟩) hB]; exact h k hk
theorem CiphAt.order {w:World} {C m:Nat} {K:Nat→Nat} (h:CiphAt w C m K):w.rangeAt C 753 ordA.toList:=fun j v hv => by
 have hj:j < 16:=by have:=(List.getElem?_eq_some_iff.1 hv).1; rwa [ordA_len] at this
 rw [h (753 + j) (by omega)]
 unfold cf
 rw [if_neg (by omega),if_neg (by omega),if_neg (by omega),if_neg (by omega),show 753 + j - 753 = j from by omega]
 have:ordA[j]? = some v:=by simpa using hv
 simp [this]
theorem CiphAt.sub {w:World} {C m:Nat} {K:Nat→Nat} (h:CiphAt w C m K) (x:Nat) (hx:x < 256):w.cell? ⟨C,241 + x,none⟩ = some (.int .u8 (Gf.sub x:Nat)):=by
 rw [h (241 + x) (by omega)]
 unfold cf
 rw [if_neg (by omega),if_neg (by omega),if_pos (by omega),show 241 + x - 241 = x from by omega]
theorem CiphAt.rounds {w:World} {C m:Nat} {K:Nat→Nat} (h:CiphAt w C m K):w.cell? ⟨C,0,none⟩ = some (.int .i64 (m:Nat)):=h 0 (by omega)
theorem CiphAt.key {w:World} {C m:Nat} {K:Nat→Nat} (h:CiphAt w C m K) (i:Nat) (hi:i < 15):w.rangeAt C (1 + i * 16) (bv 16 (Gf.keyAt K i)):=fun j v hv => by
 have hj:j < 16:=by have:=(List.getElem?_eq_some_iff.1 hv).1; rwa [bv_length] at this
 rw [bv_at hj] at hv
 cases hv
 rw [h (1 + i * 16 + j) (by omega)]
 unfold cf
 rw [if_neg (by omega),if_pos (by omega),show 1 + i * 16 + j - 1 = i * 16 + j from by omega]
 rfl
set_option maxRecDepth 100000 in
set_option maxHeartbeats 2000000 in
theorem subTurn_any (C m:Nat) (K f:Nat→Nat) (hf:∀ i,i < 16→f i < 256) (w:World) (hC:CiphAt w C m K) :
  Calls Tryz.prog 223 #[.pointer (some ⟨C,0,none⟩),.agg (bA 16 f)] w fun e w' => e = .returned (.agg (bA 16 (Gf.subTurn f)))∧Below w.heap.size w w':=by
 have HF:Hid (∀ i,i < 16→f i < 256):=hf
 have HC:Hid (CiphAt w C m K):=hC
 have hCl:=hC.lt
 clear hf hC
 have Z2:Hid (Row8 (((w.alloc (.cells (bA 16 f) 257)).alloc (.cells z16 257)).alloc (.cells z16 257)) (w.heap.size + 1 + 1) 257 16 (fun _ => 0)):=Row8.z16At (by simp) _
 have Z1:Hid (Row8 (((w.alloc (.cells (bA 16 f) 257)).alloc (.cells z16 257)).alloc (.cells z16 257)) (w.heap.size + 1) 257 16 (fun _ => 0)):=(Row8.z16At (by simp) _).alloc _
 have R3:Hid (Row8 (((w.alloc (.cells (bA 16 f) 257)).alloc (.cells z16 257)).alloc (.cells z16 257)) w.heap.size 257 16 f):=((Row8.boxedAt rfl _ _ _).alloc _).alloc _
 have B3:Hid (Below w.heap.size w (((w.alloc (.cells (bA 16 f) 257)).alloc (.cells z16 257)).alloc (.cells z16 257))):=(((Below.refl _ _).alloc (Nat.le_refl _) _).alloc (by simp) _).alloc (by simp; omega) _
 unfold z16 at Z2 Z1 R3 B3
 go_enter Tryz.func223,Tryz.ntmps223
 go_upto_region 2 with fail
 generalize ((w.alloc (.cells (bA 16 f) 257)).alloc (.cells #[.int .u8 0,.int .u8 0,.int .u8 0,.int .u8 0,.int .u8 0,.int .u8 0,.int .u8 0,.int .u8 0,.int .u8 0,.int .u8 0,.int .u8 0,.int .u8 0,.int .u8 0,.int .u8 0,.int .u8 0,.int .u8 0] 257)).alloc (.cells #[.int .u8 0,.int .u8 0,.int .u8 0,.int .u8 0,.int .u8 0,.int .u8 0,.int .u8 0,.int .u8 0,.int .u8 0,.int .u8 0,.int .u8 0,.int .u8 0,.int .u8 0,.int .u8 0,.int .u8 0,.int .u8 0] 257) = wz at *
 have OR:Hid (wz.rangeAt C 753 ordA.toList):=(HC.out.belowOf B3.out hCl).order
 have IX:Hid (∀ k:Nat,k < 16→∀ w:World,(Instr.index 260 (.agg ordA) (.int .i64 (k:Int))).run Tryz.prog w = .ok (.int .i64 (Gf.ord k:Nat)) w):=fun k hk => ordI k (Gf.ord k) hk (ordA_ord k hk)
 have SO:Hid ((Tryz.prog.info? 260).map (·.size) = some ordA.toList.length):=Tryz.sizeO
 generalize ordA = OA at *
 go_wp2_with (refine wpList_load_mid rfl 260 (.tmp 10) rfl C 753 rfl OA.toList _ OR.out Tryz.underlying260 rfl SO.out ?_)
 have HC3:Hid (CiphAt wz C m K):=HC.out.belowOf B3.out hCl
 go_loopw [12] (fun i wr => ∃ k:Nat,k≤16∧i = .int .i64 k∧Row8 wr w.heap.size 257 16 f∧Row8 wr (w.heap.size + 1) 257 16 (fun _ => 0)∧Row8 wr (w.heap.size + 1 + 1) 257 16 (fun j => if j < k then Gf.subTurn f j else 0)∧CiphAt wr C m K∧Below w.heap.size w wr) (fun i _ => 16 - (intOf i).toNat)
 case atStart => exact ⟨0,by omega,rfl,R3.out,Z1.out,Z2.out.congr (fun j hj => by simp),HC3.out,B3.out⟩
 case round =>
  clear R3 Z1 Z2 HC3 B3 OR
  obtain ⟨k,hk,rfl,h0,h1,h2,hcc,hb⟩:=hrel
  have H0:Hid (Row8 wr w.heap.size 257 16 f):=h0
  have H1:Hid (Row8 wr (w.heap.size + 1) 257 16 (fun _ => 0)):=h1
  have H2:Hid (Row8 wr (w.heap.size + 1 + 1) 257 16 (fun j => if j < k then Gf.subTurn f j else 0)):=h2
  have HCC:Hid (CiphAt wr C m K):=hcc
  have HB:Hid (Below w.heap.size w wr):=hb
  by_cases hlt:k < 16
  ·have ho:=Gf.ord_lt k
   have lf:=HF.out _ ho
   have ix:=IX.out k hlt
   have c0:wr.cell? ⟨w.heap.size,Gf.ord k,none⟩ = some (.int .u8 (f (Gf.ord k):Nat)):=World.rowIs.cell h0 ho
   have c1:=hcc.sub (f (Gf.ord k)) lf
   have c2:wr.cell? ⟨w.heap.size + 1 + 1,k,none⟩ = some (.int .u8 ((0:Nat):Int)):=by have:=World.rowIs.cell h2 hlt; simp only [] at this; rw [if_neg (by omega)] at this; exact this
   have f2:=World.rowIs.frozen h2 k
   have E:Hid (Gf.subTurn f k = Gf.sub (f (Gf.ord k))):=rfl
   clear h0 h1 h2 hcc hb
   generalize f (Gf.ord k) = X at *
   generalize Gf.ord k = O at *
   generalize Gf.sub X = Y at *
   have x0:(k:Int) < 16:=by omega
   have x1:(O:Int) < 16:=by omega
   have x2:(X:Int) < 256:=by omega
   go_wp2
   go_region
   go_wp2
   go_roundw
   case rel =>
    refine ⟨k + 1,by omega,by go_num,(H0.out.other (by show w.heap.size≠w.heap.size + 1 + 1; omega) _).drewN 1,(H1.out.other (by show w.heap.size + 1≠w.heap.size + 1 + 1; omega) _).drewN 1,?_,?_,(HB.out.setCell (by show w.heap.size≤w.heap.size + 1 + 1; omega) _).drew⟩
    ·exact ((H2.out.set k Y).congr (fun j hj => by
      by_cases e:j = k
      ·subst e; rw [if_pos rfl,if_pos (by omega),E.out]
      ·rw [if_neg e]
       by_cases h1:j < k
       ·rw [if_pos h1,if_pos (by omega)]
       ·rw [if_neg h1,if_neg (by omega)])).drewN 1
    ·intro q hq
     show (wr.setCell ⟨w.heap.size + 1 + 1,k,none⟩ (.int .u8 (Y:Nat))).cell? ⟨C,q,none⟩ = _
     rw [World.cell?_setCell_other _ _ _ _ (by intro h; cases h; omega)]
     exact HCC.out q hq
   case measure => simp [intOf]; omega
  ·have H2':Hid (Row8 wr (w.heap.size + 1 + 1) 257 16 (Gf.subTurn f)):=h2.congr (fun j hj => by rw [if_pos (by omega)])
   have hk':¬ (k:Int) < 16:=by omega
   clear h0 h1 h2 hcc hb H0 H2 HCC IX
   generalize (k:Int) = kk at *
   generalize hG:Gf.subTurn f = G at *
   have HG:Hid (Gf.subTurn f = G):=hG
   clear hG
   go_upto_region 7 with fail
   refine wp_region_lit ?_
   refine wpList_load_mid rfl 257 (.tmp 5) rfl (w.heap.size + 1 + 1) 0 rfl (bv 16 G) _ H2'.out.range Tryz.underlying257 rfl (by rw [bv_length]; exact Tryz.sizeSt) ?_
   refine wpList_store_mid rfl 257 (.tmp 4) (.tmp 27) rfl (w.heap.size + 1) 0 (bA 16 G) rfl rfl (by rw [bA_size]; exact H1.out.there) (by rw [bA_size]; exact Tryz.sizeSt) (bA_one _ _) ?_
   rw [bA_toList]
   have L:Hid ((loadVar 257 ⟨(w.heap.size + 1),0,none⟩).run Tryz.prog (wr.setCells ((w.heap.size + 1)) 0 (bv 16 G)) = .ok (.agg (bA 16 G)) (wr.setCells ((w.heap.size + 1)) 0 (bv 16 G))):=(H1.out.stored _).load Tryz.underlying257 rfl Tryz.sizeSt
   have B:Hid (Below w.heap.size w (wr.setCells ((w.heap.size + 1)) 0 (bv 16 G))):=below_setCells (by omega) _ _ _ HB.out
   have eA:(bv 16 G).toArray = bA 16 G:=rfl
   rw [eA]
   generalize wr.setCells ((w.heap.size + 1)) 0 (bv 16 G) = wf at *
   generalize hA:bA 16 G = AA at *
   have HA:Hid (bA 16 G = AA):=hA
   clear hA eA
   go_wp2
   rw [HG.out,HA.out]
   exact bodyPost_ret (v:=.agg AA) (results_cell_one (b:=(w.heap.size + 1)) (o:=0) Tryz.results223 _ _ _ rfl L.out) rfl ⟨rfl,B.out⟩
def ENC (w0:World) (C m:Nat) (K F:Nat→Nat) (w':World):Prop:=Row8 w' w0.heap.size 257 16 F∧Row8 w' (w0.heap.size + 1) 257 16 (fun _ => 0)∧CiphAt w' C m K∧Below w0.heap.size w0 w'
theorem ENC.below {w0 w' w'':World} {C m:Nat} {K F:Nat→Nat} (h:ENC w0 C m K F w') (hb:Below w'.heap.size w' w''):ENC w0 C m K F w'' :=
 ⟨h.1.below hb,h.2.1.below hb,h.2.2.1.below hb,h.2.2.2.trans (hb.mono h.2.2.2.size)⟩
theorem ENC.drew {w0 w':World} {C m:Nat} {K F:Nat→Nat} (h:ENC w0 C m K F w'):ENC w0 C m K F w'.drew:=⟨h.1,h.2.1,h.2.2.1,h.2.2.2.drew⟩
theorem ENC.store {w0 w':World} {C m:Nat} {K F:Nat→Nat} (h:ENC w0 C m K F w') (hC:C < w0.heap.size) (G:Nat→Nat):ENC w0 C m K G (w'.setCells w0.heap.size 0 (bv 16 G)) :=
 ⟨h.1.stored G,h.2.1.storedOther (by omega) _ _,fun k hk => by rw [World.cell?_setCells_out _ _ _ _ _ (by intro e; simp at e; omega)]; exact h.2.2.1 k hk,below_setCells (Nat.le_refl _) _ _ _ h.2.2.2⟩
set_option maxRecDepth 100000 in
set_option maxHeartbeats 4000000 in
theorem encrypt_any (C m:Nat) (K f:Nat→Nat) (hf:∀ i,i < 16→f i < 256) (hK:∀ j,K j < 256) (hm:1≤m) (hm':m≤14) (w:World) (hC:CiphAt w C m K) :
  Calls Tryz.prog 208 #[.pointer (some ⟨C,0,none⟩),.agg (bA 16 f)] w fun e w' => e = .returned (.agg (bA 16 (Gf.enc K m f)))∧Below w.heap.size w w':=by
 have HF:Hid (∀ i,i < 16→f i < 256):=hf
 have HK:Hid (∀ j,K j < 256):=hK
 have hCl:=hC.lt
 have E0:Hid (ENC w C m K f ((w.alloc (.cells (bA 16 f) 257)).alloc (.cells z16 257))) :=
  ⟨(Row8.boxedAt rfl _ _ _).alloc _,Row8.z16At (by simp) _,hC.belowOf (((Below.refl _ _).alloc (Nat.le_refl _) _).alloc (by simp) _) hCl,((Below.refl _ _).alloc (Nat.le_refl _) _).alloc (by simp) _⟩
 clear hf hC hK
 unfold z16 at E0
 go_enter Tryz.func208,Tryz.ntmps208
 go_upto_region 1 with fail
 generalize (w.alloc (.cells (bA 16 f) 257)).alloc (.cells #[.int .u8 0,.int .u8 0,.int .u8 0,.int .u8 0,.int .u8 0,.int .u8 0,.int .u8 0,.int .u8 0,.int .u8 0,.int .u8 0,.int .u8 0,.int .u8 0,.int .u8 0,.int .u8 0,.int .u8 0,.int .u8 0] 257) = wz at *
 have H:ENC w C m K f wz.drew:=E0.out.drew
 have AD:Hid (∀ w:World,Calls Tryz.prog 221 #[.agg (bv 16 f).toArray,.agg (bv 16 (Gf.keyAt K 0)).toArray] w fun e w' => e = .returned (.agg (bA 16 (Gf.encTo K f 0)))∧Below w.heap.size w w'):=added_any f (Gf.keyAt K 0) HF.out (fun i _ => HK.out _)
 refine wp_region_noPanic ?_
 refine wp_region_held_drew (S:=fun w' => CiphAt w' C m K) (by kernel_rfl) H.2.2.1 (fun _ => ?_)
 refine wpAnyH_take (i:=1) (v:=.pointer (some ⟨C,0,none⟩)) rfl (by kernel_rfl) (by kernel_rfl) (by kernel_rfl) (fun _ _ _ h => h) (Or.inl ⟨by rfl,?_⟩) H.2.2.1 ?_
 ·intro w hSw; go_simp
 refine ch45 ?_
 refine wpAnyH_take (i:=2) (v:=.pointer (some ⟨C,0,none⟩)) rfl (by kernel_rfl) (by kernel_rfl) (by kernel_rfl) (fun _ _ _ h => h) (Or.inl ⟨by rfl,?_⟩) H.2.2.1 ?_
 ·intro w hSw; go_simp
 refine ch45 ?_
 refine wpAnyH_take (i:=3) (v:=.pointer (some ⟨C,1,none⟩)) rfl (by kernel_rfl) (by kernel_rfl) (by kernel_rfl) (fun _ _ _ h => h) (Or.inl ⟨by rfl,?_⟩) H.2.2.1 ?_
 ·intro w hSw; go_simp
 refine ch45 ?_
 refine wpAnyH_take (i:=4) (v:=.pointer (some ⟨C,1,none⟩)) rfl (by kernel_rfl) (by kernel_rfl) (by kernel_rfl) (fun _ _ _ h => h) (Or.inl ⟨by rfl,?_⟩) H.2.2.1 ?_
 ·intro w hSw; go_simp
 refine ch45 ?_
 refine wpAnyH_take (i:=5) (v:=.agg (bv 16 (Gf.keyAt K 0)).toArray) rfl (by kernel_rfl) (by kernel_rfl) (by kernel_rfl) (fun _ _ _ h => h) (yieldsIf_load_mid (by rfl) 257 (.tmp 10) rfl C 1 rfl (bv 16 (Gf.keyAt K 0)) _ (fun w h => CiphAt.key h 0 (by omega)) Tryz.underlying257 rfl (by rw [bv_length]; exact Tryz.sizeSt)) H.2.2.1 ?_
 refine ch45 ?_
 refine wpAnyH_ready (rs:=[0]) (by kernel_rfl) (by simp) ?_
 refine AllReadyH.cons rfl (fun KK hK => ?_) AllReadyH.nil
 rw [if_pos (by rfl)]
 refine wp_load_mid 257 (.tmp 3) rfl w.heap.size 0 rfl (bv 16 f) _ H.1.range Tryz.underlying257 rfl (by rw [bv_length]; exact Tryz.sizeSt) ?_
 refine hK.out _ _ H.2.2.1 (fun _ => ?_)
 clear hK KK
 refine ch45 ?_
 refine wpAnyH_ready (rs:=[6]) (by kernel_rfl) (by simp) ?_
 refine AllReadyH.cons rfl (fun KK hK => ?_) AllReadyH.nil
 go_simp
 refine (AD.out _).mono ?_
 rintro e w1 ⟨rfl,hb⟩
 replace H:=ENC.below H hb
 refine hK.out _ _ H.2.2.1 (fun _ => ?_)
 clear hK KK hb
 refine ch45 ?_
 refine wpAnyH_ready (rs:=[7]) (by kernel_rfl) (by simp) ?_
 refine AllReadyH.cons rfl (fun KK hK => ?_) AllReadyH.nil
 rw [if_pos (by rfl)]
 refine wp_store_mid 257 (.tmp 3) (.tmp 12) rfl w.heap.size 0 (bA 16 (Gf.encTo K f 0)) rfl rfl (by rw [bA_size]; exact H.1.there) (by rw [bA_size]; exact Tryz.sizeSt) (bA_one _ _) ?_
 rw [bA_toList]
 replace H:=ENC.store H hCl (Gf.encTo K f 0)
 refine hK.out _ _ H.2.2.1 (fun _ => ?_)
 clear hK KK
 refine wpAnyH_done (by kernel_rfl) ?_ _
 refine NoPanic.normal ?_
 change Exit.then _ _ Exit.normal { tmps:=#[_,_,_,_,_,_,_,_,_,_,_,_,_,_,_,_,_,_,_,_,_,_,_,_,_,_,_,_,_,_,_,_,_,_,_,_,_,_,_,_,_,_,_,_,_],defers:=[] } _
 have H2:Hid (ENC w C m K (Gf.encTo K f 0) (w1.setCells w.heap.size 0 (bv 16 (Gf.encTo K f 0)))):=H
 clear H E0 AD
 generalize w1.setCells w.heap.size 0 (bv 16 (Gf.encTo K f 0)) = wy at *
 have eA1:∀ g,(bv 16 g).toArray = bA 16 g:=fun _ => rfl
 rw [eA1,eA1]
 clear eA1
 generalize hE0:bA 16 (Gf.encTo K f 0) = EE0 at *
 generalize bA 16 (Gf.keyAt K 0) = KA0 at *
 generalize bA 16 f = FA at *
 go_wp2_with fail
 go_loopw [5] (fun i wr => ∃ k:Nat,1≤k∧k≤m∧i = .int .i64 k∧ENC w C m K (Gf.encTo K f (k - 1)) wr) (fun i _ => m - (intOf i).toNat)
 case atStart => exact ⟨1,Nat.le_refl _,hm,rfl,H2.out⟩
 case round =>
  clear H2
  obtain ⟨k,hk1,hk2,rfl,hE⟩:=hrel
  have HE:Hid (ENC w C m K (Gf.encTo K f (k - 1)) wr):=hE
  have cr:=hE.2.2.1.rounds
  clear hE
  by_cases hlt:k < m
  ·have LE:Hid (∀ j,j < 16→Gf.encTo K f (k - 1) j < 256):=Gf.encTo_lt HK.out HF.out _
   have x0:(k:Int) < (m:Int):=by omega
   have x1:(k:Int) < 15:=by omega
   have x2:(0:Int)≤(k:Int):=by omega
   have EK:Hid (Gf.encTo K f k = Gf.addK (Gf.mixS (Gf.subTurn (Gf.encTo K f (k - 1)))) (Gf.keyAt K k)):=by
    obtain ⟨q,rfl⟩:∃ q,k = q + 1:=⟨k - 1,by omega⟩
    rfl
   have ST:Hid (∀ w:World,CiphAt w C m K→Calls Tryz.prog 223 #[.pointer (some ⟨C,0,none⟩),.agg (bv 16 (Gf.encTo K f (k - 1))).toArray] w fun e w' => e = .returned (.agg (bA 16 (Gf.subTurn (Gf.encTo K f (k - 1)))))∧Below w.heap.size w w'):=fun w h => subTurn_any C m K _ LE.out w h
   have LS:∀ j,j < 16→Gf.subTurn (Gf.encTo K f (k - 1)) j < 256:=fun j _ => Gf.subTurn_lt LE.out j
   have MX:Hid (∀ w:World,Calls Tryz.prog 222 #[.agg (bA 16 (Gf.subTurn (Gf.encTo K f (k - 1))))] w fun e w' => e = .returned (.agg (bA 16 (Gf.mixS (Gf.subTurn (Gf.encTo K f (k - 1))))))∧Below w.heap.size w w'):=mixed_any _ LS
   have AD:Hid (∀ w:World,Calls Tryz.prog 221 #[.agg (bA 16 (Gf.mixS (Gf.subTurn (Gf.encTo K f (k - 1))))),.agg (bv 16 (Gf.keyAt K k)).toArray] w fun e w' => e = .returned (.agg (bA 16 (Gf.encTo K f k)))∧Below w.heap.size w w'):=by
    rw [EK.out]; exact added_any _ (Gf.keyAt K k) (Gf.mixS_lt LS) (fun i _ => HK.out _)
   clear LS
   go_upto_region 5 with fail
   have H:ENC w C m K (Gf.encTo K f (k - 1)) wr.drew:=HE.out.drew
   clear HE cr
   generalize bA 16 (Gf.subTurn (Gf.encTo K f (k - 1))) = A1 at *
   generalize bA 16 (Gf.mixS (Gf.subTurn (Gf.encTo K f (k - 1)))) = A2 at *
   refine wp_region_noPanic ?_
   refine wp_region_held_drew (S:=fun w' => CiphAt w' C m K) (by kernel_rfl) H.2.2.1 (fun _ => ?_)
   refine wpAnyH_take (i:=0) (v:=.pointer (some ⟨C,0,none⟩)) rfl (by kernel_rfl) (by kernel_rfl) (by kernel_rfl) (fun _ _ _ h => h) (Or.inl ⟨by rfl,?_⟩) H.2.2.1 ?_
   ·intro w hSw; go_simp
   refine ch45 ?_
   refine wpAnyH_take (i:=4) (v:=.pointer (some ⟨C,0,none⟩)) rfl (by kernel_rfl) (by kernel_rfl) (by kernel_rfl) (fun _ _ _ h => h) (Or.inl ⟨by rfl,?_⟩) H.2.2.1 ?_
   ·intro w hSw; go_simp
   refine ch45 ?_
   refine wpAnyH_take (i:=5) (v:=.int .i64 (k:Int)) rfl (by kernel_rfl) (by kernel_rfl) (by kernel_rfl) (fun _ _ _ h => h) (Or.inl ⟨by rfl,?_⟩) H.2.2.1 ?_
   ·intro w hSw; go_simp
   refine ch45 ?_
   refine wpAnyH_take (i:=6) (v:=.pointer (some ⟨C,0,none⟩)) rfl (by kernel_rfl) (by kernel_rfl) (by kernel_rfl) (fun _ _ _ h => h) (Or.inl ⟨by rfl,?_⟩) H.2.2.1 ?_
   ·intro w hSw; go_simp
   refine ch45 ?_
   refine wpAnyH_take (i:=7) (v:=.pointer (some ⟨C,1,none⟩)) rfl (by kernel_rfl) (by kernel_rfl) (by kernel_rfl) (fun _ _ _ h => h) (Or.inl ⟨by rfl,?_⟩) H.2.2.1 ?_
   ·intro w hSw; go_simp
   refine ch45 ?_
   refine wpAnyH_take (i:=8) (v:=.pointer (some ⟨C,1 + k * 16,none⟩)) rfl (by kernel_rfl) (by kernel_rfl) (by kernel_rfl) (fun _ _ _ h => h) (Or.inl ⟨by rfl,?_⟩) H.2.2.1 ?_
   ·intro w hSw; go_simp
   refine ch45 ?_
   refine wpAnyH_take (i:=9) (v:=.agg (bv 16 (Gf.keyAt K k)).toArray) rfl (by kernel_rfl) (by kernel_rfl) (by kernel_rfl) (fun _ _ _ h => h) (yieldsIf_load_mid (by rfl) 257 (.tmp 29) rfl C (1 + k * 16) rfl (bv 16 (Gf.keyAt K k)) _ (fun w h => CiphAt.key h k (by omega)) Tryz.underlying257 rfl (by rw [bv_length]; exact Tryz.sizeSt)) H.2.2.1 ?_
   refine ch45 ?_
   refine wpAnyH_ready (rs:=[1]) (by kernel_rfl) (by simp) ?_
   refine AllReadyH.cons rfl (fun KK hK => ?_) AllReadyH.nil
   rw [if_pos (by rfl)]
   refine wp_load_mid 257 (.tmp 3) rfl w.heap.size 0 rfl (bv 16 (Gf.encTo K f (k - 1))) _ H.1.range Tryz.underlying257 rfl (by rw [bv_length]; exact Tryz.sizeSt) ?_
   refine hK.out _ _ H.2.2.1 (fun _ => ?_)
   clear hK KK
   refine ch45 ?_
   refine wpAnyH_ready (rs:=[2]) (by kernel_rfl) (by simp) ?_
   refine AllReadyH.cons rfl (fun KK hK => ?_) AllReadyH.nil
   go_simp
   refine (ST.out _ H.2.2.1).mono ?_
   rintro e w1 ⟨rfl,hb⟩
   replace H:=ENC.below H hb
   refine hK.out _ _ H.2.2.1 (fun _ => ?_)
   clear hK KK hb
   refine ch45 ?_
   refine wpAnyH_ready (rs:=[3]) (by kernel_rfl) (by simp) ?_
   refine AllReadyH.cons rfl (fun KK hK => ?_) AllReadyH.nil
   go_simp
   refine (MX.out _).mono ?_
   rintro e w1 ⟨rfl,hb⟩
   replace H:=ENC.below H hb
   refine hK.out _ _ H.2.2.1 (fun _ => ?_)
   clear hK KK hb
   refine ch45 ?_
   refine wpAnyH_ready (rs:=[10]) (by kernel_rfl) (by simp) ?_
   refine AllReadyH.cons rfl (fun KK hK => ?_) AllReadyH.nil
   go_simp
   refine (AD.out _).mono ?_
   rintro e w1 ⟨rfl,hb⟩
   replace H:=ENC.below H hb
   refine hK.out _ _ H.2.2.1 (fun _ => ?_)
   clear hK KK hb
   refine ch45 ?_
   refine wpAnyH_ready (rs:=[11]) (by kernel_rfl) (by simp) ?_
   refine AllReadyH.cons rfl (fun KK hK => ?_) AllReadyH.nil
   rw [if_pos (by rfl)]
   refine wp_store_mid 257 (.tmp 3) (.tmp 31) rfl w.heap.size 0 (bA 16 (Gf.encTo K f k)) rfl rfl (by rw [bA_size]; exact H.1.there) (by rw [bA_size]; exact Tryz.sizeSt) (bA_one _ _) ?_
   rw [bA_toList]
   replace H:=ENC.store H hCl (Gf.encTo K f k)
   refine hK.out _ _ H.2.2.1 (fun _ => ?_)
   clear hK KK
   refine wpAnyH_done (by kernel_rfl) ?_ _
   refine NoPanic.normal ?_
   change Exit.inBlock _ _ Exit.normal { tmps:=#[_,_,_,_,_,_,_,_,_,_,_,_,_,_,_,_,_,_,_,_,_,_,_,_,_,_,_,_,_,_,_,_,_,_,_,_,_,_,_,_,_,_,_,_,_],defers:=[] } _
   have H2:Hid (ENC w C m K (Gf.encTo K f k) (w1.setCells w.heap.size 0 (bv 16 (Gf.encTo K f k)))):=H
   clear H ST MX AD EK LE
   generalize w1.setCells w.heap.size 0 (bv 16 (Gf.encTo K f k)) = wy at *
   generalize (bv 16 (Gf.encTo K f (k - 1))).toArray = Y1 at *
   generalize (bv 16 (Gf.keyAt K k)).toArray = Y2 at *
   generalize bA 16 (Gf.encTo K f k) = Y3 at *
   go_wp2
   go_roundw
   case rel => exact ⟨k + 1,by omega,by omega,by go_num,H2.out⟩
   case measure => simp [intOf]; omega
  ·obtain rfl:k = m:=by omega
   have hkk:¬ (k:Int) < (k:Int):=by omega
   have LE:Hid (∀ j,j < 16→Gf.encTo K f (k - 1) j < 256):=Gf.encTo_lt HK.out HF.out _
   have x1:(k:Int) < 15:=by omega
   have x2:(0:Int)≤(k:Int):=by omega
   have ST:Hid (∀ w:World,CiphAt w C k K→Calls Tryz.prog 223 #[.pointer (some ⟨C,0,none⟩),.agg (bv 16 (Gf.encTo K f (k - 1))).toArray] w fun e w' => e = .returned (.agg (bA 16 (Gf.subTurn (Gf.encTo K f (k - 1)))))∧Below w.heap.size w w'):=fun w h => subTurn_any C k K _ LE.out w h
   have AD:Hid (∀ w:World,Calls Tryz.prog 221 #[.agg (bA 16 (Gf.subTurn (Gf.encTo K f (k - 1)))),.agg (bv 16 (Gf.keyAt K k)).toArray] w fun e w' => e = .returned (.agg (bA 16 (Gf.enc K k f)))∧Below w.heap.size w w'):=added_any _ (Gf.keyAt K k) (fun j _ => Gf.subTurn_lt LE.out j) (fun i _ => HK.out _)
   go_upto_region 6 with fail
   have H:ENC w C k K (Gf.encTo K f (k - 1)) wr.drew:=HE.out.drew
   clear HE cr
   generalize bA 16 (Gf.subTurn (Gf.encTo K f (k - 1))) = A1 at *
   refine wp_region_noPanic ?_
   refine wp_region_held_drew (S:=fun w' => CiphAt w' C k K) (by kernel_rfl) H.2.2.1 (fun _ => ?_)
   refine wpAnyH_take (i:=0) (v:=.pointer (some ⟨C,0,none⟩)) rfl (by kernel_rfl) (by kernel_rfl) (by kernel_rfl) (fun _ _ _ h => h) (Or.inl ⟨by rfl,?_⟩) H.2.2.1 ?_
   ·intro w hSw; go_simp
   refine ch45 ?_
   refine wpAnyH_take (i:=3) (v:=.pointer (some ⟨C,0,none⟩)) rfl (by kernel_rfl) (by kernel_rfl) (by kernel_rfl) (fun _ _ _ h => h) (Or.inl ⟨by rfl,?_⟩) H.2.2.1 ?_
   ·intro w hSw; go_simp
   refine ch45 ?_
   refine wpAnyH_take (i:=4) (v:=.pointer (some ⟨C,0,none⟩)) rfl (by kernel_rfl) (by kernel_rfl) (by kernel_rfl) (fun _ _ _ h => h) (Or.inl ⟨by rfl,?_⟩) H.2.2.1 ?_
   ·intro w hSw; go_simp
   refine ch45 ?_
   refine wpAnyH_take (i:=5) (v:=.pointer (some ⟨C,0,none⟩)) rfl (by kernel_rfl) (by kernel_rfl) (by kernel_rfl) (fun _ _ _ h => h) (Or.inl ⟨by rfl,?_⟩) H.2.2.1 ?_
   ·intro w hSw; go_simp
   refine ch45 ?_
   refine wpAnyH_take (i:=6) (v:=.pointer (some ⟨C,0,none⟩)) rfl (by kernel_rfl) (by kernel_rfl) (by kernel_rfl) (fun _ _ _ h => h) (Or.inl ⟨by rfl,?_⟩) H.2.2.1 ?_
   ·intro w hSw; go_simp
   refine ch45 ?_
   refine wpAnyH_take (i:=7) (v:=.int .i64 (k:Int)) rfl (by kernel_rfl) (by kernel_rfl) (by kernel_rfl) (fun _ _ _ h => h) (Or.inl ⟨by rfl,?_⟩) H.2.2.1 ?_
   ·intro w hSw; have hfact:=CiphAt.rounds hSw; go_simp
   refine ch45 ?_
   refine wpAnyH_take (i:=8) (v:=.pointer (some ⟨C,0,none⟩)) rfl (by kernel_rfl) (by kernel_rfl) (by kernel_rfl) (fun _ _ _ h => h) (Or.inl ⟨by rfl,?_⟩) H.2.2.1 ?_
   ·intro w hSw; go_simp
   refine ch45 ?_
   refine wpAnyH_take (i:=9) (v:=.pointer (some ⟨C,1,none⟩)) rfl (by kernel_rfl) (by kernel_rfl) (by kernel_rfl) (fun _ _ _ h => h) (Or.inl ⟨by rfl,?_⟩) H.2.2.1 ?_
   ·intro w hSw; go_simp
   refine ch45 ?_
   refine wpAnyH_take (i:=10) (v:=.pointer (some ⟨C,1 + k * 16,none⟩)) rfl (by kernel_rfl) (by kernel_rfl) (by kernel_rfl) (fun _ _ _ h => h) (Or.inl ⟨by rfl,?_⟩) H.2.2.1 ?_
   ·intro w hSw; go_simp
   refine ch45 ?_
   refine wpAnyH_take (i:=11) (v:=.agg (bv 16 (Gf.keyAt K k)).toArray) rfl (by kernel_rfl) (by kernel_rfl) (by kernel_rfl) (fun _ _ _ h => h) (yieldsIf_load_mid (by rfl) 257 (.tmp 42) rfl C (1 + k * 16) rfl (bv 16 (Gf.keyAt K k)) _ (fun w h => CiphAt.key h k (by omega)) Tryz.underlying257 rfl (by rw [bv_length]; exact Tryz.sizeSt)) H.2.2.1 ?_
   refine ch45 ?_
   refine wpAnyH_ready (rs:=[1]) (by kernel_rfl) (by simp) ?_
   refine AllReadyH.cons rfl (fun KK hK => ?_) AllReadyH.nil
   rw [if_pos (by rfl)]
   refine wp_load_mid 257 (.tmp 3) rfl w.heap.size 0 rfl (bv 16 (Gf.encTo K f (k - 1))) _ H.1.range Tryz.underlying257 rfl (by rw [bv_length]; exact Tryz.sizeSt) ?_
   refine hK.out _ _ H.2.2.1 (fun _ => ?_)
   clear hK KK
   refine ch45 ?_
   refine wpAnyH_ready (rs:=[2]) (by kernel_rfl) (by simp) ?_
   refine AllReadyH.cons rfl (fun KK hK => ?_) AllReadyH.nil
   go_simp
   refine (ST.out _ H.2.2.1).mono ?_
   rintro e w1 ⟨rfl,hb⟩
   replace H:=ENC.below H hb
   refine hK.out _ _ H.2.2.1 (fun _ => ?_)
   clear hK KK hb
   refine ch45 ?_
   refine wpAnyH_ready (rs:=[12]) (by kernel_rfl) (by simp) ?_
   refine AllReadyH.cons rfl (fun KK hK => ?_) AllReadyH.nil
   go_simp
   refine (AD.out _).mono ?_
   rintro e w1 ⟨rfl,hb⟩
   replace H:=ENC.below H hb
   refine hK.out _ _ H.2.2.1 (fun _ => ?_)
   clear hK KK hb
   refine ch45 ?_
   refine wpAnyH_ready (rs:=[13]) (by kernel_rfl) (by simp) ?_
   refine AllReadyH.cons rfl (fun KK hK => ?_) AllReadyH.nil
   rw [if_pos (by rfl)]
   refine wp_store_mid 257 (.tmp 4) (.tmp 44) rfl (w.heap.size + 1) 0 (bA 16 (Gf.enc K k f)) rfl rfl (by rw [bA_size]; exact H.2.1.there) (by rw [bA_size]; exact Tryz.sizeSt) (bA_one _ _) ?_
   rw [bA_toList]
   have H3:Hid ((loadVar 257 ⟨w.heap.size + 1,0,none⟩).run Tryz.prog (w1.setCells (w.heap.size + 1) 0 (bv 16 (Gf.enc K k f))) = .ok (.agg (bA 16 (Gf.enc K k f))) (w1.setCells (w.heap.size + 1) 0 (bv 16 (Gf.enc K k f)))):=(H.2.1.stored _).load Tryz.underlying257 rfl Tryz.sizeSt
   have H4:Hid (Below w.heap.size w (w1.setCells (w.heap.size + 1) 0 (bv 16 (Gf.enc K k f)))):=below_setCells (by omega) _ _ _ H.2.2.2
   refine hK.out _ _ (fun q hq => by rw [World.cell?_setCells_out _ _ _ _ _ (by intro e; simp at e; omega)]; exact H.2.2.1 q hq) (fun _ => ?_)
   clear hK KK H ST AD LE
   refine wpAnyH_done (by kernel_rfl) ?_ _
   refine NoPanic.normal ?_
   change Exit.then _ _ Exit.normal { tmps:=#[_,_,_,_,_,_,_,_,_,_,_,_,_,_,_,_,_,_,_,_,_,_,_,_,_,_,_,_,_,_,_,_,_,_,_,_,_,_,_,_,_,_,_,_,_],defers:=[] } _
   generalize w1.setCells (w.heap.size + 1) 0 (bv 16 (Gf.enc K k f)) = wf at *
   generalize (bv 16 (Gf.encTo K f (k - 1))).toArray = Y1 at *
   generalize (bv 16 (Gf.keyAt K k)).toArray = Y2 at *
   generalize hA:bA 16 (Gf.enc K k f) = AA at *
   have HA:Hid (bA 16 (Gf.enc K k f) = AA):=hA
   clear hA
   go_wp2
   rw [HA.out]
   exact bodyPost_ret (v:=.agg AA) (results_cell_one (b:=w.heap.size + 1) (o:=0) Tryz.results208 _ _ _ rfl H3.out) rfl ⟨rfl,H4.out⟩
end Go.Proofs.YtcpjeopnhgoonaaGreatDoor
