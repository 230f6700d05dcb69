/-
  Texts of the proof, joined.
-/
import Derived.Test.YtcpjeopnhgoonaaGreatDoorF02
import Derived.Test.YtcpjeopnhgoonaaGreatDoorF03
import Derived.Laws.OwnMore
namespace Go.Proofs.YtcpjeopnhgoonaaGreatDoor
open Go.ChangeShapes Go.WideShapes Go.ChangeAt Go.RowKit
set_option linter.unusedVariables false
def Code8 (w:World) (a:Option Addr) (len:Nat) (z:Nat→Nat):Prop:=∀ i,i < len→∃ cb off,a = some ⟨cb,off,none⟩∧w.cell? ⟨cb,off + i,none⟩ = some (.int .u8 (z i:Nat))
theorem Code8.below {w w':World} {a:Option Addr} {n:Nat} {f:Nat→Nat} (h:Code8 w a n f) (hb:Below w.heap.size w w'):Code8 w' a n f:=fun i hi => by
 obtain ⟨b,off,ha,hc⟩:=h i hi
 exact ⟨b,off,ha,by rw [hb.cell (strBlock hc)]; exact hc⟩
theorem Code8.onlyB {w w':World} {a:Option Addr} {n b:Nat} {f:Nat→Nat} (h:Code8 w a n f) (ho:OnlyB b w w') (hs:∀ x,0 < n→a = some x→x.block≠b):Code8 w' a n f:=fun i hi => by
 obtain ⟨cb,off,ha,hc⟩:=h i hi
 exact ⟨cb,off,ha,by rw [World.cell?_of_block (w:=w) (ho.block cb (strBlock hc) (hs _ (by omega) ha))]; exact hc⟩
theorem code8_of_row {w:World} {a:Option Addr} {len cap:Nat} {zs:List Int} (h:IsRow .u8 w a len cap zs):∃ z:Nat→Nat,(∀ i,z i < 256)∧Code8 w a len z:=by
 rcases h with ⟨rfl,rfl,rfl,rfl⟩ | ⟨x,rfl,hl,hm,hz,hcell,hwz⟩
 ·exact ⟨fun _ => 0,fun _ => by show 0 < 256; omega,fun i hi => absurd hi (by omega)⟩
 ·have r:∀ i,0≤zs.getD i 0∧zs.getD i 0≤255:=fun i => by simpa using range_u8 hwz i
  refine ⟨fun i => (zs.getD i 0).toNat,fun i => by have:=r i; show (zs.getD i 0).toNat < 256; omega,fun i hi => ?_⟩
  obtain ⟨b,off,rfl,hc⟩:=ints_at hcell (by omega)
  refine ⟨b,off,rfl,?_⟩
  rw [hc i (by omega)]
  have:=r i
  rw [show (((zs.getD i 0).toNat:Nat):Int) = zs.getD i 0 from by omega]
theorem Code8.congr {w:World} {a:Option Addr} {n:Nat} {f g:Nat→Nat} (h:Code8 w a n f) (e:∀ i,i < n→f i = g i):Code8 w a n g:=fun i hi => by
 obtain ⟨b,off,ha,hc⟩:=h i hi
 exact ⟨b,off,ha,by rw [← e i hi]; exact hc⟩
theorem Code8.part {w:World} {a:Option Addr} {n m:Nat} {f:Nat→Nat} (h:Code8 w a n f) (hm:m≤n):Code8 w a m f:=fun i hi => h i (by omega)
theorem code8_zero (w:World) (a:Option Addr) (f:Nat→Nat):Code8 w a 0 f:=fun i hi => absurd hi (by omega)
theorem Code8.lt {w:World} {a:Option Addr} {n:Nat} {f:Nat→Nat} (h:Code8 w a n f):∀ x,0 < n→a = some x→x.block < w.heap.size:=fun x h0 hx => by
 obtain ⟨cb,off,ha,hh⟩:=h 0 h0
 rw [ha] at hx
 cases hx
 exact strBlock hh
theorem Code8.shift {w:World} {b off n:Nat} {f:Nat→Nat} (h:Code8 w (some ⟨b,off,none⟩) n f) (k:Nat):Code8 w (some ⟨b,off + k,none⟩) (n - k) (fun i => f (k + i)):=fun i hi => by
 obtain ⟨b',off',ha,hc⟩:=h (k + i) (by omega)
 cases ha
 exact ⟨b,off + k,rfl,by rw [Nat.add_assoc]; exact hc⟩
def Own8 (w:World) (b n:Nat) (f:Nat→Nat):Prop:=∃ (m:Nat) (g:Nat→Value),n≤m∧w.rowIs b 5 m g∧∀ i,i < n→g i = .int .u8 (f i:Nat)
theorem Own8.cell {w:World} {b n:Nat} {f:Nat→Nat} (h:Own8 w b n f) {i:Nat} (hi:i < n):w.cell? ⟨b,i,none⟩ = some (.int .u8 (f i:Nat)):=by
 obtain ⟨m,g,hm,hr,hg⟩:=h
 rw [hr.cell (by omega),hg i hi]
theorem Own8.frozen {w:World} {b n:Nat} {f:Nat→Nat} (h:Own8 w b n f) (i:Nat):w.frozen? ⟨b,i,none⟩ = false:=by
 obtain ⟨m,g,hm,hr,hg⟩:=h
 exact hr.frozen i
theorem Own8.lt {w:World} {b n:Nat} {f:Nat→Nat} (h:Own8 w b n f):b < w.heap.size:=by
 obtain ⟨m,g,hm,hr,hg⟩:=h
 exact hr.lt
theorem Own8.part {w:World} {b n n':Nat} {f:Nat→Nat} (h:Own8 w b n f) (hn:n'≤n):Own8 w b n' f:=by
 obtain ⟨m,g,hm,hr,hg⟩:=h
 exact ⟨m,g,by omega,hr,fun i hi => hg i (by omega)⟩
theorem Own8.of_block {w w':World} {b n:Nat} {f:Nat→Nat} (h:Own8 w b n f) (e:w'.heap[b]? = w.heap[b]?):Own8 w' b n f:=by
 obtain ⟨m,g,hm,hr,hg⟩:=h
 exact ⟨m,g,hm,hr.of_block e,hg⟩
theorem Own8.below {w w':World} {b n:Nat} {f:Nat→Nat} (h:Own8 w b n f) (hb:Below w.heap.size w w'):Own8 w' b n f:=h.of_block (hb.block b h.lt)
theorem Own8.onlyB {w w':World} {b c n:Nat} {f:Nat→Nat} (h:Own8 w b n f) (ho:OnlyB c w w') (hne:b≠c):Own8 w' b n f:=h.of_block (ho.block b h.lt hne)
theorem Own8.code {w:World} {b n:Nat} {f:Nat→Nat} (h:Own8 w b n f):Code8 w (some ⟨b,0,none⟩) n f:=fun i hi => ⟨b,0,rfl,by rw [Nat.zero_add]; exact h.cell hi⟩
theorem Own8.ofRow {w:World} {b n:Nat} {f:Nat→Nat} (h:w.rowIs b 5 n (fun i => .int .u8 (f i:Nat))):Own8 w b n f:=⟨n,_,Nat.le_refl _,h,fun _ _ => rfl⟩
theorem own8_of_owned {w:World} {base:Nat} {v:Value} {n:Nat} {f:Nat→Nat} (h:w.ownsRow base 5 1 v n (bv n f)) (hn:0 < n) :
  ∃ b cap,(base≤b∧n≤cap)∧v = .slice (some ⟨b,0,none⟩) n cap∧Own8 w b n f:=by
 obtain ⟨hl,⟨rfl,rfl⟩ | ⟨g,cap,cur,rfl,hb,hh,hn',hm,hs,ht⟩⟩:=h
 ·omega
 ·refine ⟨g,cap,⟨hb,hn'⟩,rfl,cap,fun i => cur.getD i undef,hn',⟨cur,hh,by omega,fun i hi => ?_⟩,fun i hi => ?_⟩
  ·have:i < cur.size:=by omega
   simp [Array.getD,this]
  ·have h1:(cur.toList.take (n * 1))[i]? = some (.int .u8 (f i:Nat)):=by rw [ht]; exact bv_at hi
   rw [List.getElem?_take,if_pos (by omega),Array.getElem?_toList] at h1
   simp [Array.getD_eq_getD_getElem?,h1]
def OwnS (w:World) (B:Nat) (a:Option Addr) (n:Nat) (f:Nat→Nat):Prop:=n = 0∨∃ b,B≤b∧a = some ⟨b,0,none⟩∧Own8 w b n f
theorem ownS_of_owned {w:World} {base:Nat} {v:Value} {n:Nat} {f:Nat→Nat} (h:w.ownsRow base 5 1 v n (bv n f)) :
  ∃ a cap,v = .slice a n cap∧OwnS w base a n f:=by
 rcases Nat.eq_zero_or_pos n with rfl | hn
 ·obtain ⟨hl,⟨rfl,_⟩ | ⟨g,cap,cur,rfl,hb,hh,hn',hm,hs,ht⟩⟩:=h
  ·exact ⟨_,_,rfl,.inl rfl⟩
  ·exact ⟨_,_,rfl,.inl rfl⟩
 ·obtain ⟨b,cap,hb,rfl,ho⟩:=own8_of_owned h hn
  exact ⟨_,cap,rfl,.inr ⟨b,hb.1,rfl,ho⟩⟩
theorem Code8.at {w:World} {b o n:Nat} {f:Nat→Nat} (h:Code8 w (some ⟨b,o,none⟩) n f) {i:Nat} (hi:i < n):w.cell? ⟨b,o + i,none⟩ = some (.int .u8 (f i:Nat)):=by
 obtain ⟨b',o',ha,hc⟩:=h i hi
 cases ha
 exact hc
theorem code8_of {w:World} {b o n:Nat} {f:Nat→Nat} (h:∀ i,i < n→w.cell? ⟨b,o + i,none⟩ = some (.int .u8 (f i:Nat))):Code8 w (some ⟨b,o,none⟩) n f:=fun i hi => ⟨b,o,rfl,h i hi⟩
theorem bv_news {w:World} {b o n:Nat} {f:Nat→Nat} (h:Code8 w (some ⟨b,o,none⟩) n f):∀ j u,(bv n f)[j]? = some u→w.cell? ((⟨b,o,none⟩:Addr).add j) = some u:=fun j u hu => by
 have hj:j < n:=by have:=(List.getElem?_eq_some_iff.1 hu).1; rwa [bv_length] at this
 rw [bv_at hj] at hu
 cases hu
 rw [Addr.add_lit]
 exact h.at hj
theorem bv_one (n:Nat) (f:Nat→Nat):∀ u ∈ bv n f,u.oneCell' = true:=fun u hu => by
 obtain ⟨i,_,rfl⟩:=List.mem_map.1 hu
 rfl
theorem bv_append (n m:Nat) (f g:Nat→Nat):bv n f ++ bv m g = bv (n + m) (fun i => if i < n then f i else g (i - n)):=by
 apply List.ext_getElem?
 intro i
 by_cases h:i < n
 ·rw [List.getElem?_append_left (by rw [bv_length]; exact h),bv_at h,bv_at (by omega),if_pos h]
 ·rw [List.getElem?_append_right (by rw [bv_length]; omega),bv_length]
  by_cases h2:i < n + m
  ·rw [bv_at (by omega),bv_at h2,if_neg h]
  ·rw [List.getElem?_eq_none (by rw [bv_length]; omega),List.getElem?_eq_none (by rw [bv_length]; omega)]
theorem bv_zero (f:Nat→Nat):bv 0 f = []:=rfl
theorem bv_snoc (n:Nat) (f:Nat→Nat):bv n f ++ [.int .u8 (f n:Nat)] = bv (n + 1) f:=by
 unfold bv
 rw [List.range_succ,List.map_append]
 rfl
theorem own8_of_own {w:World} {base:Nat} {v:Value} {n:Nat} {f:Nat→Nat} (h:w.ownsRow base 5 1 v n (bv n f)) (hv:v≠.slice none 0 0) :
  ∃ b cap,(base≤b∧n≤cap)∧v = .slice (some ⟨b,0,none⟩) n cap∧Own8 w b n f:=by
 rcases Nat.eq_zero_or_pos n with rfl | hn
 ·obtain ⟨hl,⟨rfl,_⟩ | ⟨g,cap,cur,rfl,hb,hh,hn',hm,hs,ht⟩⟩:=h
  ·exact absurd rfl hv
  ·exact ⟨g,cap,⟨hb,hn'⟩,rfl,cap,fun i => cur.getD i undef,hn',⟨cur,hh,by omega,fun i hi => by
    have:i < cur.size:=by omega
    simp [Array.getD,this]⟩,fun i hi => absurd hi (by omega)⟩
 ·exact own8_of_owned h hn
theorem ownsRow_below8 {w w':World} {base:Nat} {e:TypeId} {size:Nat} {v:Value} {n:Nat} {xs:List Value} (h:w.ownsRow base e size v n xs) (hb:Below w.heap.size w w'):w'.ownsRow base e size v n xs:=by
 obtain ⟨hl,h0 | ⟨g,cap,cur,hv,h1,hh,h2⟩⟩:=h
 ·exact ⟨hl,.inl h0⟩
 ·refine ⟨hl,.inr ⟨g,cap,cur,hv,h1,?_,h2⟩⟩
  rw [hb.block g ?_]
  ·exact hh
  ·rcases Nat.lt_or_ge g w.heap.size with k | k
   ·exact k
   ·rw [Array.getElem?_eq_none k] at hh; cases hh
theorem grown_below {w w':World} {base:Nat} {e:TypeId} {size:Nat} {v:Value} {n:Nat} {xs:List Value} (h:w.ownsRow base e size v n xs) (hg:w.grownBy w' v.ownBlock) (hb:base≤w.heap.size):Below base w w' :=
 (Below.refl base w).grown hg hb (fun k hk => (h.lt k hk).1)
theorem Code8.grown {w w':World} {row:Option Nat} {b o n:Nat} {f:Nat→Nat} (h:Code8 w (some ⟨b,o,none⟩) n f) (hg:w.grownBy w' row) (hne:some b≠row):Code8 w' (some ⟨b,o,none⟩) n f :=
 code8_of (fun i hi => by
  have hc:=h.at hi
  rw [World.cell?_of_block (w:=w) (hg.block b (strBlock hc) hne)]; exact hc)
theorem Code8.belowAt {w w':World} {B b o n:Nat} {f:Nat→Nat} (h:Code8 w (some ⟨b,o,none⟩) n f) (hb:Below B w w') (hB:b < B):Code8 w' (some ⟨b,o,none⟩) n f :=
 code8_of (fun i hi => by rw [hb.cell (p:=⟨b,o + i,none⟩) hB]; exact h.at hi)
theorem Code8.belowO {w w':World} {B:Nat} {a:Option Addr} {n:Nat} {f:Nat→Nat} (h:Code8 w a n f) (hb:Below B w w') (hlt:∀ x,0 < n→a = some x→x.block < B):Code8 w' a n f:=fun i hi => by
 obtain ⟨b,off,ha,hc⟩:=h i hi
 have hbB:b < B:=hlt ⟨b,off,none⟩ (by omega) ha
 exact ⟨b,off,ha,by rw [hb.cell (p:=⟨b,off + i,none⟩) hbB]; exact hc⟩
theorem below_drewN8 {B:Nat} {w w':World} (h:Below B w w') (q:Nat):Below B w (w'.drewN q):=⟨h.os,h.tape,h.output,h.size,h.block⟩
theorem numEq8 {k:IntKind} {a b:Int} (h:a = b):Value.int k a = .int k b:=by rw [h]
theorem Tryz.info8:(Tryz.prog.info? 5).map (fun i => (i.zero,i.size,i.bytes)) = some (some (.int .u8 0),1,1):=by kernel_rfl
theorem mkBytes (n:Nat) (hn:n≤10000000) (w:World):(Instr.makeSlice 68 (.int .i64 (n:Int)) (.int .i64 (n:Int))).run Tryz.prog w = .ok (.slice (some ⟨w.heap.size,0,none⟩) n n) (w.alloc (.cells (madeCells #[.int .u8 0] n) 5)) :=
 run_make_row' 68 5 (.int .u8 0) 1 Tryz.underlying68 Tryz.info8 rfl .i64 .i64 n (by omega) (by omega) w
end Go.Proofs.YtcpjeopnhgoonaaGreatDoor
