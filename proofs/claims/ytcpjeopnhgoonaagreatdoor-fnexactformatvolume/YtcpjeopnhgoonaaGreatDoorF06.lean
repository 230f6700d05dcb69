/-
  Texts of the proof, joined.
-/
import Derived.Test.YtcpjeopnhgoonaaGreatDoorF04
namespace Go.Proofs.YtcpjeopnhgoonaaGreatDoor
open Go.ChangeShapes Go.WideShapes Go.ChangeAt Go.RowKit
set_option linter.unusedVariables false
def wv (n:Nat) (f:Nat→Nat):List Value:=(List.range n).map fun i => .int .u32 (f i:Nat)
def wA (n:Nat) (f:Nat→Nat):Array Value:=(wv n f).toArray
theorem wv_length (n:Nat) (f:Nat→Nat):(wv n f).length = n:=by simp [wv]
theorem wA_size (n:Nat) (f:Nat→Nat):(wA n f).size = n:=by simp [wA,wv]
theorem wA_toList (n:Nat) (f:Nat→Nat):(wA n f).toList = wv n f:=by simp [wA]
theorem wv_at {n:Nat} {f:Nat→Nat} {k:Nat} (h:k < n):(wv n f)[k]? = some (.int .u32 (f k:Nat)):=by simp [wv,h]
theorem wA_at {n:Nat} {f:Nat→Nat} {k:Nat} (h:k < n):(wA n f)[k]? = some (.int .u32 (f k:Nat)):=by rw [wA,List.getElem?_toArray]; exact wv_at h
theorem wA_one (n:Nat) (f:Nat→Nat):(wA n f).all (·.oneCell') = true:=all_oneCell_toArray (fun v hv => by
 obtain ⟨i,_,rfl⟩:=List.mem_map.1 hv
 rfl)
def RowW (w:World) (b:Nat) (t:TypeId) (n:Nat) (f:Nat→Nat):Prop:=w.rowIs b t n (fun i => .int .u32 (f i:Nat))
theorem RowW.range {w:World} {b n:Nat} {t:TypeId} {f:Nat→Nat} (h:RowW w b t n f):w.rangeAt b 0 (wv n f):=fun j v hv => by
 have hj:j < n:=by have:=(List.getElem?_eq_some_iff.1 hv).1; rwa [wv_length] at this
 rw [wv_at hj] at hv
 cases hv
 rw [Nat.zero_add]
 exact h.cell hj
theorem RowW.there {w:World} {b n:Nat} {t:TypeId} {f:Nat→Nat} (h:RowW w b t n f):w.there b 0 n:=fun j hj => by
 rw [Nat.zero_add,h.cell hj,h.frozen j]
 exact ⟨rfl,rfl⟩
theorem RowW.boxed (w:World) (t:TypeId) (n:Nat) (f:Nat→Nat):RowW (w.alloc (.cells (wA n f) t)) w.heap.size t n f:=by
 have:=World.rowIs_alloc w (wA n f) t (fun i => .int .u32 (f i:Nat)) (fun i hi => wA_at (by rwa [wA_size] at hi))
 rw [wA_size] at this
 exact this
theorem RowW.zeros (w:World) (t:TypeId) (n:Nat):RowW (w.alloc (.cells (Array.replicate n (.int .u32 0)) t)) w.heap.size t n (fun _ => 0):=by
 have:=World.rowIs_alloc w (Array.replicate n (.int .u32 0)) t (fun _ => .int .u32 ((0:Nat):Int)) (fun i hi => by
  have hi':i < n:=by simpa using hi
  simp [hi'])
 rw [Array.size_replicate] at this
 exact this
theorem RowW.set {w:World} {b n:Nat} {t:TypeId} {f:Nat→Nat} (h:RowW w b t n f) (i v:Nat):RowW (w.setCell ⟨b,i,none⟩ (.int .u32 (v:Nat))) b t n (fun j => if j = i then v else f j) :=
 (World.rowIs.set h i _).congr (fun j _ => by by_cases e:j = i <;> simp [e])
theorem RowW.congr {w:World} {b n:Nat} {t:TypeId} {f g:Nat→Nat} (h:RowW w b t n f) (e:∀ i,i < n→f i = g i):RowW w b t n g:=World.rowIs.congr h (fun i hi => by rw [e i hi])
theorem RowW.below {w w':World} {b n:Nat} {t:TypeId} {f:Nat→Nat} (h:RowW w b t n f) (hb:Below w.heap.size w w'):RowW w' b t n f:=World.rowIs.of_block h (hb.block b h.lt)
theorem RowW.other {w:World} {b n:Nat} {t:TypeId} {f:Nat→Nat} (h:RowW w b t n f) {a:Addr} (ha:b≠a.block) (v:Value):RowW (w.setCell a v) b t n f:=World.rowIs.setOther h ha v
theorem RowW.alloc {w:World} {b n:Nat} {t:TypeId} {f:Nat→Nat} (h:RowW w b t n f) (o:Obj):RowW (w.alloc o) b t n f:=World.rowIs.alloc h o
theorem RowW.drewN {w:World} {b n:Nat} {t:TypeId} {f:Nat→Nat} (h:RowW w b t n f) (q:Nat):RowW (w.drewN q) b t n f:=h
theorem RowW.stored {w:World} {b n:Nat} {t:TypeId} {f:Nat→Nat} (h:RowW w b t n f) (g:Nat→Nat):RowW (w.setCells b 0 (wv n g)) b t n g :=
 (rowIs_setCells (wv n g) 0 w _ h).congr (fun i hi => by
  rw [if_pos (by rw [wv_length]; omega),Nat.sub_zero,List.getD_eq_getElem?_getD,wv_at hi]; rfl)
theorem RowW.load {P:Program} {w:World} {b n:Nat} {t:TypeId} {f:Nat→Nat} (h:RowW w b t n f) {d:TypeDesc} (hu:P.underlying t = some d) (hd:d.isRow = true) (hi:(P.info? t).map (·.size) = some n):(loadVar t ⟨b,0,none⟩).run P w = .ok (.agg (wA n f)) w :=
 run_loadVar_mid w b 0 t (wv n f) d h.range hu hd (by rw [wv_length]; exact hi)
theorem RowW.boxedAt {w:World} {b:Nat} (hb:w.heap.size = b) (t:TypeId) (n:Nat) (f:Nat→Nat):RowW (w.alloc (.cells (wA n f) t)) b t n f:=by subst hb; exact RowW.boxed w t n f
theorem RowW.zerosAt {w:World} {b:Nat} (hb:w.heap.size = b) (t:TypeId) (n:Nat):RowW (w.alloc (.cells (Array.replicate n (.int .u32 0)) t)) b t n (fun _ => 0):=by subst hb; exact RowW.zeros w t n
theorem RowW.onlyB {w w':World} {b c n:Nat} {t:TypeId} {f:Nat→Nat} (h:RowW w b t n f) (ho:OnlyB c w w') (hne:b≠c):RowW w' b t n f:=World.rowIs.of_block h (ho.block b h.lt hne)
end Go.Proofs.YtcpjeopnhgoonaaGreatDoor
