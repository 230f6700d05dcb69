/-
  Texts of the proof, joined.
-/
import Derived.WalkKit
import Derived.Deep.MidRow
import Derived.Test.YtcpjeopnhgoonaaGreatDoorRows
import Derived.ProofKit
import Derived.Below
import Derived.WalkSmall
import Derived.Deep.OwnRows
import Derived.Deep.WholeRow
namespace Go.Proofs.YtcpjeopnhgoonaaGreatDoor
theorem run_index_flat {P:Program} {t e:TypeId} {n:Nat} {d:TypeDesc} (hu:P.underlying t = some (.array n e)) (he:P.underlying e = some d) (hd:d.isRow = false)
  (hs:(P.info? e).map (·.size) = some 1) {A:Array Value} {k:Nat} {v:Value} (hk:k < n) (hv:A[k]? = some v) (w:World) :
  (Instr.index t (.agg A) (.int .i64 (k:Int))).run P w = .ok v w:=by
 cases hq:P.info? e with
 | none => simp [hq] at hs
 | some i =>
  have hz:i.size = 1:=by simpa [hq] using hs
  have hagg:(isAgg e).run P w = .ok false w:=by
   unfold isAgg
   rw [Sem.run_bind,run_underlying he w]
   cases d <;> simp_all
  have hk1:(0:Int)≤(k:Int)∧(k:Int) < (n:Int):=by omega
  simp [Instr.index,asIntOf,Sem.run_bind,run_underlying hu w,hk1,sizeOf,typeInfo,hq,hz,part,hagg,hv]
  intro h
  omega
end Go.Proofs.YtcpjeopnhgoonaaGreatDoor
namespace Go.Proofs.YtcpjeopnhgoonaaGreatDoor
open Go.ChangeShapes Go.WideShapes Go.ChangeAt Go.RowKit
set_option linter.unusedVariables false
def bv (n:Nat) (f:Nat→Nat):List Value:=(List.range n).map fun i => .int .u8 (f i:Nat)
def bA (n:Nat) (f:Nat→Nat):Array Value:=(bv n f).toArray
theorem bv_length (n:Nat) (f:Nat→Nat):(bv n f).length = n:=by simp [bv]
theorem bA_size (n:Nat) (f:Nat→Nat):(bA n f).size = n:=by simp [bA,bv]
theorem bA_toList (n:Nat) (f:Nat→Nat):(bA n f).toList = bv n f:=by simp [bA]
theorem bv_at {n:Nat} {f:Nat→Nat} {k:Nat} (h:k < n):(bv n f)[k]? = some (.int .u8 (f k:Nat)):=by simp [bv,h]
theorem bA_at {n:Nat} {f:Nat→Nat} {k:Nat} (h:k < n):(bA n f)[k]? = some (.int .u8 (f k:Nat)):=by rw [bA,List.getElem?_toArray]; exact bv_at h
theorem bv_congr {n:Nat} {f g:Nat→Nat} (h:∀ i,i < n→f i = g i):bv n f = bv n g:=by
 unfold bv
 exact List.map_congr_left (fun i hi => by rw [h i (List.mem_range.1 hi)])
theorem bA_one (n:Nat) (f:Nat→Nat):(bA n f).all (·.oneCell') = true:=all_oneCell_toArray (fun v hv => by
 obtain ⟨i,_,rfl⟩:=List.mem_map.1 hv
 rfl)
def Row8 (w:World) (b:Nat) (t:TypeId) (n:Nat) (f:Nat→Nat):Prop:=w.rowIs b t n (fun i => .int .u8 (f i:Nat))
theorem Row8.range {w:World} {b n:Nat} {t:TypeId} {f:Nat→Nat} (h:Row8 w b t n f):w.rangeAt b 0 (bv n f):=fun j v hv => by
 have hj:j < n:=by have:=(List.getElem?_eq_some_iff.1 hv).1; rwa [bv_length] at this
 rw [bv_at hj] at hv
 cases hv
 rw [Nat.zero_add]
 exact h.cell hj
theorem Row8.there {w:World} {b n:Nat} {t:TypeId} {f:Nat→Nat} (h:Row8 w b t n f):w.there b 0 n:=fun j hj => by
 rw [Nat.zero_add,h.cell hj,h.frozen j]
 exact ⟨rfl,rfl⟩
theorem Row8.boxed (w:World) (t:TypeId) (n:Nat) (f:Nat→Nat):Row8 (w.alloc (.cells (bA n f) t)) w.heap.size t n f:=by
 have:=World.rowIs_alloc w (bA n f) t (fun i => .int .u8 (f i:Nat)) (fun i hi => bA_at (by rwa [bA_size] at hi))
 rw [bA_size] at this
 exact this
theorem Row8.zeros (w:World) (t:TypeId) (n:Nat):Row8 (w.alloc (.cells (Array.replicate n (.int .u8 0)) t)) w.heap.size t n (fun _ => 0):=by
 have:=World.rowIs_alloc w (Array.replicate n (.int .u8 0)) t (fun _ => .int .u8 ((0:Nat):Int)) (fun i hi => by
  have hi':i < n:=by simpa using hi
  simp [hi'])
 rw [Array.size_replicate] at this
 exact this
theorem Row8.set {w:World} {b n:Nat} {t:TypeId} {f:Nat→Nat} (h:Row8 w b t n f) (i v:Nat):Row8 (w.setCell ⟨b,i,none⟩ (.int .u8 (v:Nat))) b t n (fun j => if j = i then v else f j) :=
 (World.rowIs.set h i _).congr (fun j _ => by by_cases e:j = i <;> simp [e])
theorem Row8.congr {w:World} {b n:Nat} {t:TypeId} {f g:Nat→Nat} (h:Row8 w b t n f) (e:∀ i,i < n→f i = g i):Row8 w b t n g:=World.rowIs.congr h (fun i hi => by rw [e i hi])
theorem Row8.below {w w':World} {b n:Nat} {t:TypeId} {f:Nat→Nat} (h:Row8 w b t n f) (hb:Below w.heap.size w w'):Row8 w' b t n f:=World.rowIs.of_block h (hb.block b h.lt)
theorem Row8.other {w:World} {b n:Nat} {t:TypeId} {f:Nat→Nat} (h:Row8 w b t n f) {a:Addr} (ha:b≠a.block) (v:Value):Row8 (w.setCell a v) b t n f:=World.rowIs.setOther h ha v
theorem Row8.alloc {w:World} {b n:Nat} {t:TypeId} {f:Nat→Nat} (h:Row8 w b t n f) (o:Obj):Row8 (w.alloc o) b t n f:=World.rowIs.alloc h o
theorem Row8.drewN {w:World} {b n:Nat} {t:TypeId} {f:Nat→Nat} (h:Row8 w b t n f) (q:Nat):Row8 (w.drewN q) b t n f:=h
theorem below_setCells {B b:Nat} {a:World} (hb:B≤b) (vs:List Value):∀ (o:Nat) (w:World),Below B a w→Below B a (w.setCells b o vs):=by
 induction vs with
 | nil => intro o w h; exact h
 | cons v vs ih => intro o w h; exact ih (o + 1) _ (h.setCell hb v)
theorem rowIs_setCells {b n:Nat} {t:TypeId} (vs:List Value):∀ (o:Nat) (w:World) (f:Nat→Value),w.rowIs b t n f →
  (w.setCells b o vs).rowIs b t n (fun i => if o≤i∧i < o + vs.length then vs.getD (i - o) undef else f i):=by
 induction vs with
 | nil => intro o w f h; exact h.congr (fun i _ => by rw [if_neg (by intro g; have:=g.1; have:=g.2; simp at this; omega)])
 | cons v vs ih =>
  intro o w f h
  refine (ih (o + 1) _ _ (h.set o v)).congr (fun i _ => ?_)
  by_cases h1:o + 1≤i∧i < o + 1 + vs.length
  ·rw [if_pos h1,if_pos (by simp; omega)]
   rw [show i - o = (i - (o + 1)) + 1 from by omega]
   rfl
  ·rw [if_neg h1]
   by_cases h2:i = o
   ·subst h2; simp
   ·rw [if_neg h2,if_neg (by simp; omega)]
theorem Row8.stored {w:World} {b n:Nat} {t:TypeId} {f:Nat→Nat} (h:Row8 w b t n f) (g:Nat→Nat):Row8 (w.setCells b 0 (bv n g)) b t n g :=
 (rowIs_setCells (bv n g) 0 w _ h).congr (fun i hi => by
  rw [if_pos (by rw [bv_length]; omega),Nat.sub_zero,List.getD_eq_getElem?_getD,bv_at hi]; rfl)
theorem rowIs_setCells_other {b b' n:Nat} {t:TypeId} {f:Nat→Value} (hne:b'≠b) (vs:List Value):∀ (o:Nat) (w:World),w.rowIs b' t n f→(w.setCells b o vs).rowIs b' t n f:=by
 induction vs with
 | nil => intro o w h; exact h
 | cons v vs ih => intro o w h; exact ih (o + 1) _ (h.setOther hne v)
theorem Row8.storedOther {w:World} {b b' n:Nat} {t:TypeId} {f:Nat→Nat} (h:Row8 w b' t n f) (hne:b'≠b) (o:Nat) (vs:List Value):Row8 (w.setCells b o vs) b' t n f:=rowIs_setCells_other hne vs o w h
theorem results_cell_one {fn:Func} {p:Tmp} {ty:TypeId} (h:fn.results = #[.cell p ty]) (tmps:Array Value) (P:Program) (w:World) {b o:Nat} (hp:tmps.getD p undef = .pointer (some ⟨b,o,none⟩)) {v:Value} (hl:(loadVar ty ⟨b,o,none⟩).run P w = .ok v w) :
  (results fn tmps).run P w = .ok v w:=by
 have hp':tmps[p]?.getD undef = .pointer (some ⟨b,o,none⟩):=by simpa using hp
 simp only [results,h]
 simp [hp',asAddr,hl]
theorem Row8.load {P:Program} {w:World} {b n:Nat} {t:TypeId} {f:Nat→Nat} (h:Row8 w b t n f) {d:TypeDesc} (hu:P.underlying t = some d) (hd:d.isRow = true) (hi:(P.info? t).map (·.size) = some n):(loadVar t ⟨b,0,none⟩).run P w = .ok (.agg (bA n f)) w :=
 run_loadVar_mid w b 0 t (bv n f) d h.range hu hd (by rw [bv_length]; exact hi)
theorem Row8.boxedAt {w:World} {b:Nat} (hb:w.heap.size = b) (t:TypeId) (n:Nat) (f:Nat→Nat):Row8 (w.alloc (.cells (bA n f) t)) b t n f:=by subst hb; exact Row8.boxed w t n f
theorem Row8.zerosAt {w:World} {b:Nat} (hb:w.heap.size = b) (t:TypeId) (n:Nat):Row8 (w.alloc (.cells (Array.replicate n (.int .u8 0)) t)) b t n (fun _ => 0):=by subst hb; exact Row8.zeros w t n
def z16:Array Value:=#[.int .u8 0,.int .u8 0,.int .u8 0,.int .u8 0,.int .u8 0,.int .u8 0,.int .u8 0,.int .u8 0,.int .u8 0,.int .u8 0,.int .u8 0,.int .u8 0,.int .u8 0,.int .u8 0,.int .u8 0,.int .u8 0]
theorem z16_eq:z16 = Array.replicate 16 (.int .u8 0):=by kernel_rfl
theorem Row8.z16At {w:World} {b:Nat} (hb:w.heap.size = b) (t:TypeId):Row8 (w.alloc (.cells z16 t)) b t 16 (fun _ => 0):=by rw [z16_eq]; exact Row8.zerosAt hb t 16
theorem Row8.zerosSetAt {w:World} {b:Nat} (hb:w.heap.size = b) (t:TypeId) (n i v:Nat):Row8 (w.alloc (.cells ((Array.replicate n (.int .u8 0)).setIfInBounds i (.int .u8 (v:Nat))) t)) b t n (fun j => if j = i then v else 0):=by
 subst hb
 have:=World.rowIs_alloc w ((Array.replicate n (.int .u8 0)).setIfInBounds i (.int .u8 (v:Nat))) t (fun j => .int .u8 ((if j = i then v else 0:Nat):Int)) (fun j hj => by
  have hj':j < n:=by simpa using hj
  rw [Array.getElem?_setIfInBounds]
  by_cases e:i = j
  ·subst e; simp [hj']
  ·rw [if_neg e]
   rw [if_neg (fun h => e h.symm)]
   simp [hj'])
 simpa [Row8] using this
end Go.Proofs.YtcpjeopnhgoonaaGreatDoor
