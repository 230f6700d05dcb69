/-
  Texts of the proof, joined.
-/
import Derived.Test.YtcpjeopnhgoonaaGreatDoorF35
namespace Go.Proofs.YtcpjeopnhgoonaaGreatDoor
open Go.ChangeShapes Go.WideShapes Go.ChangeAt Go.RowKit
set_option linter.unusedVariables false
def Dk.part (d:Dk) (m0 m1 m2:Nat):Dk:=⟨m0,d.B,m1,d.A,d.D,m2,d.S⟩
structure OwnI (w u:World) (v0 v1 v2:Value) (d:Dk) (r0 r1 r2:Value):Prop where
 rows:Rows3 u (w.heap.size + 2) d r0 r1 r2
 b:Below w.heap.size w u
 h:u.cell? ⟨w.heap.size,0,none⟩ = some v0∧u.cell? ⟨w.heap.size,1,none⟩ = some v1∧u.cell? ⟨w.heap.size,2,none⟩ = some v2
 x:Box3 u (w.heap.size + 1) 25 (.slice none 0 0) (.slice none 0 0) (.slice none 0 0)
 g:w.heap.size + 2≤u.heap.size
theorem OwnI.go {w u u':World} {v0 v1 v2:Value} {d d':Dk} {r0 r1 r2 s0 s1 s2:Value} (h:OwnI w u v0 v1 v2 d r0 r1 r2) (hb:Below (w.heap.size + 2) u u') (hr:Rows3 u' (w.heap.size + 2) d' s0 s1 s2):OwnI w u' v0 v1 v2 d' s0 s1 s2 :=
 ⟨hr,h.b.trans (hb.mono (by omega)),⟨(hb.cell (by show w.heap.size < _; omega)).trans h.h.1,(hb.cell (by show w.heap.size < _; omega)).trans h.h.2.1,(hb.cell (by show w.heap.size < _; omega)).trans h.h.2.2⟩,h.x.ofBlock (hb.block _ (by omega)),Nat.le_trans h.g hb.size⟩
theorem OwnI.lit0 {w u:World} {v0 v1 v2:Value} {d:Dk} {m1 m2:Nat} {r0 r1 r2:Value} (h:OwnI w u v0 v1 v2 (d.part 0 m1 m2) r0 r1 r2):OwnI w (u.alloc (.cells #[] 9)) v0 v1 v2 (d.part 0 m1 m2) (.slice (some ⟨u.heap.size,0,none⟩) 0 0) r1 r2:=by
 have hb:Below u.heap.size u (u.alloc (.cells #[] 9)):=(Below.refl _ _).alloc (Nat.le_refl _) _
 have R:=h.rows.below hb
 exact h.go (hb.mono h.g) ⟨TxR.lit u _ h.g _,R.t1,R.t2,fun g e e2 => by cases e; exact absurd (World.ownsRow.lt h.rows.t1 _ e2).2 (Nat.lt_irrefl _),fun g e e2 => by cases e; exact absurd (World.ownsRow.lt h.rows.t2 _ e2).2 (Nat.lt_irrefl _),R.n12⟩
theorem OwnI.lit1 {w u:World} {v0 v1 v2:Value} {d:Dk} {m0 m2:Nat} {r0 r1 r2:Value} (h:OwnI w u v0 v1 v2 (d.part m0 0 m2) r0 r1 r2):OwnI w (u.alloc (.cells #[] 60)) v0 v1 v2 (d.part m0 0 m2) r0 (.slice (some ⟨u.heap.size,0,none⟩) 0 0) r2:=by
 have hb:Below u.heap.size u (u.alloc (.cells #[] 60)):=(Below.refl _ _).alloc (Nat.le_refl _) _
 have R:=h.rows.below hb
 exact h.go (hb.mono h.g) ⟨R.t0,PnR.lit u _ h.g _ _,R.t2,fun g e e2 => by cases e2; exact absurd (World.ownsRow.lt h.rows.t0 _ e).2 (Nat.lt_irrefl _),R.n02,fun g e e2 => by cases e; exact absurd (World.ownsRow.lt h.rows.t2 _ e2).2 (Nat.lt_irrefl _)⟩
theorem OwnI.lit2 {w u:World} {v0 v1 v2:Value} {d:Dk} {m0 m1:Nat} {r0 r1 r2:Value} (h:OwnI w u v0 v1 v2 (d.part m0 m1 0) r0 r1 r2):OwnI w (u.alloc (.cells #[] 9)) v0 v1 v2 (d.part m0 m1 0) r0 r1 (.slice (some ⟨u.heap.size,0,none⟩) 0 0):=by
 have hb:Below u.heap.size u (u.alloc (.cells #[] 9)):=(Below.refl _ _).alloc (Nat.le_refl _) _
 have R:=h.rows.below hb
 exact h.go (hb.mono h.g) ⟨R.t0,R.t1,TxR.lit u _ h.g _,R.n01,fun g e e2 => by cases e2; exact absurd (World.ownsRow.lt h.rows.t0 _ e).2 (Nat.lt_irrefl _),fun g e e2 => by cases e2; exact absurd (World.ownsRow.lt h.rows.t1 _ e).2 (Nat.lt_irrefl _)⟩
theorem catT0 (f g:Nat→ByteArray) (i:Nat):catT 0 f g i = g i:=by unfold catT; rw [if_neg (by omega)]; rfl
theorem catI0 (f g:Nat→Int) (i:Nat):catI 0 f g i = g i:=by unfold catI; rw [if_neg (by omega)]; rfl
theorem OwnI.app0 {w u:World} {v0 v1 v2:Value} {d:Dk} {m1 m2:Nat} {r0 r1 r2:Value} (h:OwnI w u v0 v1 v2 (d.part 0 m1 m2) r0 r1 r2) (a:Option Addr) (c:Nat) (hs:Strs w a d.nb d.B) (hn:d.nb≤1048576) (ha:a = none→c = 0) :
  ∃ i k u',(Builtin.append_ #[22,22] 22 #[r0,.slice a d.nb c]).run Tryz.prog u = .ok (.slice i d.nb k) u'∧OwnI w u' v0 v1 v2 (d.part d.nb m1 m2) (.slice i d.nb k) r1 r2:=by
 obtain ⟨v,u',hr,ho,hg,hloc⟩:=appTx u (w.heap.size + 2) r0 0 d.B a d.nb c d.B 22 h.g (by omega) h.rows.t0 (hs.below h.b) ha
 rw [Nat.zero_add] at ho
 have ho':=ho.congr (fun i _ => catT0 d.B d.B i)
 obtain ⟨i,k,rfl,-⟩:=ho'.form
 have keep:∀ g,g < u.heap.size→r0.ownBlock≠some g→u'.heap[g]? = u.heap[g]?:=fun g h1 h2 => hg.block g h1 (fun e => h2 e.symm)
 have hb:Below (w.heap.size + 2) u u':=⟨hg.os,hg.tape,hg.output,hg.size,fun g hg' => keep g (by have:=h.g; omega) (fun e => by have:=(World.ownsRow.lt h.rows.t0 g e).1; omega)⟩
 refine ⟨i,k,u',hr,h.go hb ⟨ho',ownsRow_block h.rows.t1 (fun g e => keep g (World.ownsRow.lt h.rows.t1 g e).2 (fun e2 => h.rows.n01 g e2 e)),ownsRow_block h.rows.t2 (fun g e => keep g (World.ownsRow.lt h.rows.t2 g e).2 (fun e2 => h.rows.n02 g e2 e)),fun g e e2 => ?_,fun g e e2 => ?_,h.rows.n12⟩⟩
 ·rcases hloc with q | q
  ·exact h.rows.n01 g (q ▸ e) e2
  ·have:=(World.ownsRow.lt h.rows.t1 g e2).2
   have:=Option.some.inj (q.symm.trans e)
   omega
 ·rcases hloc with q | q
  ·exact h.rows.n02 g (q ▸ e) e2
  ·have:=(World.ownsRow.lt h.rows.t2 g e2).2
   have:=Option.some.inj (q.symm.trans e)
   omega
theorem OwnI.app1 {w u:World} {v0 v1 v2:Value} {d:Dk} {m0 m2:Nat} {r0 r1 r2:Value} (h:OwnI w u v0 v1 v2 (d.part m0 0 m2) r0 r1 r2) (a:Option Addr) (c:Nat) (hs:Pens w a d.nc d.A d.D) (hn:d.nc≤1048576) (ha:a = none→c = 0) :
  ∃ i k u',(Builtin.append_ #[23,23] 23 #[r1,.slice a d.nc c]).run Tryz.prog u = .ok (.slice i d.nc k) u'∧OwnI w u' v0 v1 v2 (d.part m0 d.nc m2) r0 (.slice i d.nc k) r2:=by
 obtain ⟨v,u',hr,ho,hg,hloc⟩:=appPn u (w.heap.size + 2) r1 0 d.A d.D a d.nc c d.A d.D 23 h.g (by omega) h.rows.t1 (hs.below h.b) ha
 rw [Nat.zero_add] at ho
 have ho':=ho.congr (fun i _ => ⟨catI0 d.A d.A i,catT0 d.D d.D i⟩)
 obtain ⟨i,k,rfl,-⟩:=ho'.form
 have keep:∀ g,g < u.heap.size→r1.ownBlock≠some g→u'.heap[g]? = u.heap[g]?:=fun g h1 h2 => hg.block g h1 (fun e => h2 e.symm)
 have hb:Below (w.heap.size + 2) u u':=⟨hg.os,hg.tape,hg.output,hg.size,fun g hg' => keep g (by have:=h.g; omega) (fun e => by have:=(World.ownsRow.lt h.rows.t1 g e).1; omega)⟩
 refine ⟨i,k,u',hr,h.go hb ⟨ownsRow_block h.rows.t0 (fun g e => keep g (World.ownsRow.lt h.rows.t0 g e).2 (fun e2 => h.rows.n01 g e e2)),ho',ownsRow_block h.rows.t2 (fun g e => keep g (World.ownsRow.lt h.rows.t2 g e).2 (fun e2 => h.rows.n12 g e2 e)),fun g e e2 => ?_,h.rows.n02,fun g e e2 => ?_⟩⟩
 ·rcases hloc with q | q
  ·exact h.rows.n01 g e (q ▸ e2)
  ·have:=(World.ownsRow.lt h.rows.t0 g e).2
   have:=Option.some.inj (q.symm.trans e2)
   omega
 ·rcases hloc with q | q
  ·exact h.rows.n12 g (q ▸ e) e2
  ·have:=(World.ownsRow.lt h.rows.t2 g e2).2
   have:=Option.some.inj (q.symm.trans e)
   omega
theorem OwnI.app2 {w u:World} {v0 v1 v2:Value} {d:Dk} {m0 m1:Nat} {r0 r1 r2:Value} (h:OwnI w u v0 v1 v2 (d.part m0 m1 0) r0 r1 r2) (a:Option Addr) (c:Nat) (hs:Strs w a d.ns d.S) (hn:d.ns≤1048576) (ha:a = none→c = 0) :
  ∃ i k u',(Builtin.append_ #[22,22] 22 #[r2,.slice a d.ns c]).run Tryz.prog u = .ok (.slice i d.ns k) u'∧OwnI w u' v0 v1 v2 (d.part m0 m1 d.ns) r0 r1 (.slice i d.ns k):=by
 obtain ⟨v,u',hr,ho,hg,hloc⟩:=appTx u (w.heap.size + 2) r2 0 d.S a d.ns c d.S 22 h.g (by omega) h.rows.t2 (hs.below h.b) ha
 rw [Nat.zero_add] at ho
 have ho':=ho.congr (fun i _ => catT0 d.S d.S i)
 obtain ⟨i,k,rfl,-⟩:=ho'.form
 have keep:∀ g,g < u.heap.size→r2.ownBlock≠some g→u'.heap[g]? = u.heap[g]?:=fun g h1 h2 => hg.block g h1 (fun e => h2 e.symm)
 have hb:Below (w.heap.size + 2) u u':=⟨hg.os,hg.tape,hg.output,hg.size,fun g hg' => keep g (by have:=h.g; omega) (fun e => by have:=(World.ownsRow.lt h.rows.t2 g e).1; omega)⟩
 refine ⟨i,k,u',hr,h.go hb ⟨ownsRow_block h.rows.t0 (fun g e => keep g (World.ownsRow.lt h.rows.t0 g e).2 (fun e2 => h.rows.n02 g e e2)),ownsRow_block h.rows.t1 (fun g e => keep g (World.ownsRow.lt h.rows.t1 g e).2 (fun e2 => h.rows.n12 g e e2)),ho',h.rows.n01,fun g e e2 => ?_,fun g e e2 => ?_⟩⟩
 ·rcases hloc with q | q
  ·exact h.rows.n02 g e (q ▸ e2)
  ·have:=(World.ownsRow.lt h.rows.t0 g e).2
   have:=Option.some.inj (q.symm.trans e2)
   omega
 ·rcases hloc with q | q
  ·exact h.rows.n12 g e (q ▸ e2)
  ·have:=(World.ownsRow.lt h.rows.t1 g e).2
   have:=Option.some.inj (q.symm.trans e2)
   omega
set_option maxRecDepth 100000 in
set_option maxHeartbeats 40000000 in
theorem l05Own_any (d:Dk) (a0 a1 a2:Option Addr) (c0 c1 c2:Nat) (h0:d.nb≤1048576) (h1:d.nc≤1048576) (h2:d.ns≤1048576) (z0:a0 = none→c0 = 0) (z1:a1 = none→c1 = 0) (z2:a2 = none→c2 = 0) (w:World) (h:DiskV w d a0 a1 a2) :
  Calls Tryz.prog 11 #[.agg #[.slice a0 d.nb c0,.slice a1 d.nc c1,.slice a2 d.ns c2]] w fun e w' => (∃ v0 v1 v2,e = .returned (.agg #[v0,v1,v2])∧Rows3 w' w.heap.size d v0 v1 v2)∧Below w.heap.size w w':=by
 have DV:Hid (DiskV w d a0 a1 a2):=h
 clear h
 go_enter Tryz.func11,Tryz.ntmps11
 go_wp2_with fail
 have A0:Below w.heap.size w ((w.alloc (.cells #[.slice a0 d.nb c0,.slice a1 d.nc c1,.slice a2 d.ns c2] 25)).alloc (.cells #[.slice none 0 0,.slice none 0 0,.slice none 0 0] 25)):=((Below.refl _ _).alloc (Nat.le_refl _) _).alloc (by simp) _
 have I:Hid (OwnI w ((w.alloc (.cells #[.slice a0 d.nb c0,.slice a1 d.nc c1,.slice a2 d.ns c2] 25)).alloc (.cells #[.slice none 0 0,.slice none 0 0,.slice none 0 0] 25)).drew (.slice a0 d.nb c0) (.slice a1 d.nc c1) (.slice a2 d.ns c2) (d.part 0 0 0) (.slice none 0 0) (.slice none 0 0) (.slice none 0 0)) :=
  ⟨⟨TxR.nil _ _ _,PnR.nil _ _ _ _,TxR.nil _ _ _,fun g e => (by cases e),fun g e => (by cases e),fun g e => (by cases e)⟩,A0.drew,by refine ⟨?_,?_,?_⟩ <;> simp,(Box3.madeAt (w:=w.alloc (.cells #[.slice a0 d.nb c0,.slice a1 d.nc c1,.slice a2 d.ns c2] 25)) (by simp) _ _ _ _).below (Below.refl _ _).drew,by simp⟩
 have H:=I.out.h
 clear A0
 refine wp_region_noPanic ?_
 refine wp_region_held_drew (S:=fun w' => w'.cell? ⟨w.heap.size,0,none⟩ = some (.slice a0 d.nb c0)∧w'.cell? ⟨w.heap.size,1,none⟩ = some (.slice a1 d.nc c1)∧w'.cell? ⟨w.heap.size,2,none⟩ = some (.slice a2 d.ns c2)) (by kernel_rfl) H (fun _ => ?_)
 generalize ((w.alloc (.cells #[.slice a0 d.nb c0,.slice a1 d.nc c1,.slice a2 d.ns c2] 25)).alloc (.cells #[.slice none 0 0,.slice none 0 0,.slice none 0 0] 25)).drew = u0 at *
 refine tkH (i:=1) (v:=.pointer (some ⟨w.heap.size,0,none⟩)) rfl (by kernel_rfl) (by rfl) ?_ H ?_
 ·intro w' hSw; go_simp
 refine ch16 ?_
 refine tkH (i:=2) (v:=.slice a0 d.nb c0) rfl (by kernel_rfl) (by rfl) ?_ H ?_
 ·intro w' hSw; have t0:=hSw.1; have t1:=hSw.2.1; have t2:=hSw.2.2; clear hSw; go_simp
 refine ch16 ?_
 refine tkH (i:=5) (v:=.pointer (some ⟨w.heap.size,1,none⟩)) rfl (by kernel_rfl) (by rfl) ?_ H ?_
 ·intro w' hSw; go_simp
 refine ch16 ?_
 refine tkH (i:=6) (v:=.slice a1 d.nc c1) rfl (by kernel_rfl) (by rfl) ?_ H ?_
 ·intro w' hSw; have t0:=hSw.1; have t1:=hSw.2.1; have t2:=hSw.2.2; clear hSw; go_simp
 refine ch16 ?_
 refine tkH (i:=9) (v:=.pointer (some ⟨w.heap.size,2,none⟩)) rfl (by kernel_rfl) (by rfl) ?_ H ?_
 ·intro w' hSw; go_simp
 refine ch16 ?_
 refine tkH (i:=10) (v:=.slice a2 d.ns c2) rfl (by kernel_rfl) (by rfl) ?_ H ?_
 ·intro w' hSw; have t0:=hSw.1; have t1:=hSw.2.1; have t2:=hSw.2.2; clear hSw; go_simp
 refine ch16 ?_
 refine wpAnyH_ready (rs:=[0,4,8]) (by kernel_rfl) (by simp) ?_
 refine (AllReadyH.cons rfl (fun KK hK => ?_) (AllReadyH.cons rfl (fun KK hK => ?_) (AllReadyH.cons rfl (fun KK hK => ?_) AllReadyH.nil)))
 replace I:=hid I.out.lit0
 go_simp
 generalize (u0.alloc (.cells #[] 9)) = u1 at *
 generalize u0.heap.size = g0 at *
 replace H:=I.out.h
 refine hK.out _ _ H (fun _ => ?_)
 clear hK KK
 refine ch16 ?_
 apply tg0
 rotate_left
 exact trivial
 replace I:=hid I.out.lit1
 go_simp
 generalize (u0.alloc (.cells #[] 60)) = u1 at *
 generalize u0.heap.size = g1 at *
 replace H:=I.out.h
 refine hK.out _ _ H (fun _ => ?_)
 clear hK KK
 refine ch16 ?_
 apply tg1
 rotate_left
 exact trivial
 replace I:=hid I.out.lit2
 go_simp
 generalize (u0.alloc (.cells #[] 9)) = u1 at *
 generalize u0.heap.size = g2 at *
 replace H:=I.out.h
 refine hK.out _ _ H (fun _ => ?_)
 clear hK KK
 refine ch16 ?_
 apply tg2
 rotate_left
 exact trivial
 case' q0 =>
  refine wpAnyH_ready (rs:=[3,4,8]) (by kernel_rfl) (by simp) ?_
  refine (AllReadyH.cons rfl (fun KK hK => ?_) (AllReadyH.cons rfl (fun KK hK => ?_) (AllReadyH.cons rfl (fun KK hK => ?_) AllReadyH.nil)))
  obtain ⟨i0,k0,u2,hr,hI⟩:=I.out.app0 a0 c0 DV.out.1 h0 z0
  rw [if_pos (by rfl)]
  refine Lib.wp_append_run _ (.tmp 3) (.tmp 5) 22 22 rfl (.slice (some ⟨g0,0,none⟩) 0 0) (.slice a0 d.nb c0) rfl rfl _ _ hr ?_
  replace I:=hid hI
  replace H:=I.out.h
  clear hr hI
  refine hK.out _ _ H (fun _ => ?_)
  clear hK KK
  refine ch16 ?_
  apply tg3
  rotate_left
  exact trivial
  replace I:=hid I.out.lit1
  go_simp
  generalize (u1.alloc (.cells #[] 60)) = u2 at *
  generalize u1.heap.size = g1 at *
  replace H:=I.out.h
  refine hK.out _ _ H (fun _ => ?_)
  clear hK KK
  refine ch16 ?_
  apply tg4
  rotate_left
  exact trivial
  replace I:=hid I.out.lit2
  go_simp
  generalize (u1.alloc (.cells #[] 9)) = u2 at *
  generalize u1.heap.size = g2 at *
  replace H:=I.out.h
  refine hK.out _ _ H (fun _ => ?_)
  clear hK KK
  refine ch16 ?_
  apply tg5
  rotate_left
  exact trivial
 case' q1 =>
  refine wpAnyH_ready (rs:=[0,8]) (by kernel_rfl) (by simp) ?_
  refine (AllReadyH.cons rfl (fun KK hK => ?_) (AllReadyH.cons rfl (fun KK hK => ?_) AllReadyH.nil))
  replace I:=hid I.out.lit0
  go_simp
  generalize (u1.alloc (.cells #[] 9)) = u2 at *
  generalize u1.heap.size = g0 at *
  replace H:=I.out.h
  refine hK.out _ _ H (fun _ => ?_)
  clear hK KK
  refine ch16 ?_
  apply tg4
  rotate_left
  exact trivial
  replace I:=hid I.out.lit2
  go_simp
  generalize (u1.alloc (.cells #[] 9)) = u2 at *
  generalize u1.heap.size = g2 at *
  replace H:=I.out.h
  refine hK.out _ _ H (fun _ => ?_)
  clear hK KK
  refine ch16 ?_
  apply tg6
  rotate_left
  exact trivial
 case' q2 =>
  refine wpAnyH_ready (rs:=[0,4]) (by kernel_rfl) (by simp) ?_
  refine (AllReadyH.cons rfl (fun KK hK => ?_) (AllReadyH.cons rfl (fun KK hK => ?_) AllReadyH.nil))
  replace I:=hid I.out.lit0
  go_simp
  generalize (u1.alloc (.cells #[] 9)) = u2 at *
  generalize u1.heap.size = g0 at *
  replace H:=I.out.h
  refine hK.out _ _ H (fun _ => ?_)
  clear hK KK
  refine ch16 ?_
  apply tg5
  rotate_left
  exact trivial
  replace I:=hid I.out.lit1
  go_simp
  generalize (u1.alloc (.cells #[] 60)) = u2 at *
  generalize u1.heap.size = g1 at *
  replace H:=I.out.h
  refine hK.out _ _ H (fun _ => ?_)
  clear hK KK
  refine ch16 ?_
  apply tg6
  rotate_left
  exact trivial
 case' q4 | q4 =>
  refine wpAnyH_ready (rs:=[3,8]) (by kernel_rfl) (by simp) ?_
  refine (AllReadyH.cons rfl (fun KK hK => ?_) (AllReadyH.cons rfl (fun KK hK => ?_) AllReadyH.nil))
  obtain ⟨i0,k0,u3,hr,hI⟩:=I.out.app0 a0 c0 DV.out.1 h0 z0
  rw [if_pos (by rfl)]
  refine Lib.wp_append_run _ (.tmp 3) (.tmp 5) 22 22 rfl (.slice (some ⟨g0,0,none⟩) 0 0) (.slice a0 d.nb c0) rfl rfl _ _ hr ?_
  replace I:=hid hI
  replace H:=I.out.h
  clear hr hI
  refine hK.out _ _ H (fun _ => ?_)
  clear hK KK
  refine ch16 ?_
  apply tg7
  rotate_left
  exact trivial
  replace I:=hid I.out.lit2
  go_simp
  generalize (u2.alloc (.cells #[] 9)) = u3 at *
  generalize u2.heap.size = g2 at *
  replace H:=I.out.h
  refine hK.out _ _ H (fun _ => ?_)
  clear hK KK
  refine ch16 ?_
  apply tg8
  rotate_left
  exact trivial
 case' q5 | q5 =>
  refine wpAnyH_ready (rs:=[3,4]) (by kernel_rfl) (by simp) ?_
  refine (AllReadyH.cons rfl (fun KK hK => ?_) (AllReadyH.cons rfl (fun KK hK => ?_) AllReadyH.nil))
  obtain ⟨i0,k0,u3,hr,hI⟩:=I.out.app0 a0 c0 DV.out.1 h0 z0
  rw [if_pos (by rfl)]
  refine Lib.wp_append_run _ (.tmp 3) (.tmp 5) 22 22 rfl (.slice (some ⟨g0,0,none⟩) 0 0) (.slice a0 d.nb c0) rfl rfl _ _ hr ?_
  replace I:=hid hI
  replace H:=I.out.h
  clear hr hI
  refine hK.out _ _ H (fun _ => ?_)
  clear hK KK
  refine ch16 ?_
  apply tg9
  rotate_left
  exact trivial
  replace I:=hid I.out.lit1
  go_simp
  generalize (u2.alloc (.cells #[] 60)) = u3 at *
  generalize u2.heap.size = g1 at *
  replace H:=I.out.h
  refine hK.out _ _ H (fun _ => ?_)
  clear hK KK
  refine ch16 ?_
  apply tg8
  rotate_left
  exact trivial
 case' q3 =>
  refine wpAnyH_ready (rs:=[4,8]) (by kernel_rfl) (by simp) ?_
  refine (AllReadyH.cons rfl (fun KK hK => ?_) (AllReadyH.cons rfl (fun KK hK => ?_) AllReadyH.nil))
  replace I:=hid I.out.lit1
  go_simp
  generalize (u2.alloc (.cells #[] 60)) = u3 at *
  generalize u2.heap.size = g1 at *
  replace H:=I.out.h
  refine hK.out _ _ H (fun _ => ?_)
  clear hK KK
  refine ch16 ?_
  apply tg7
  rotate_left
  exact trivial
  replace I:=hid I.out.lit2
  go_simp
  generalize (u2.alloc (.cells #[] 9)) = u3 at *
  generalize u2.heap.size = g2 at *
  replace H:=I.out.h
  refine hK.out _ _ H (fun _ => ?_)
  clear hK KK
  refine ch16 ?_
  apply tg9
  rotate_left
  exact trivial
 case' q6 | q6 =>
  refine rdH (i:=0) (by kernel_rfl) rfl (fun KK hK => ?_)
  replace I:=hid I.out.lit0
  go_simp
  generalize (u2.alloc (.cells #[] 9)) = u3 at *
  generalize u2.heap.size = g0 at *
  replace H:=I.out.h
  refine hK.out _ _ H (fun _ => ?_)
  clear hK KK
  refine ch16 ?_
 case' q8 | q8 | q8 | q8 | q6 | q6 =>
  refine rdH (i:=3) (by kernel_rfl) rfl (fun KK hK => ?_)
  obtain ⟨i0,k0,u4,hr,hI⟩:=I.out.app0 a0 c0 DV.out.1 h0 z0
  rw [if_pos (by rfl)]
  refine Lib.wp_append_run _ (.tmp 3) (.tmp 5) 22 22 rfl (.slice (some ⟨g0,0,none⟩) 0 0) (.slice a0 d.nb c0) rfl rfl _ _ hr ?_
  replace I:=hid hI
  replace H:=I.out.h
  clear hr hI
  refine hK.out _ _ H (fun _ => ?_)
  clear hK KK
  refine ch16 ?_
 case' q7 | q7 | q7 =>
  refine wpAnyH_ready (rs:=[7,8]) (by kernel_rfl) (by simp) ?_
  refine (AllReadyH.cons rfl (fun KK hK => ?_) (AllReadyH.cons rfl (fun KK hK => ?_) AllReadyH.nil))
  obtain ⟨i1,k1,u4,hr,hI⟩:=I.out.app1 a1 c1 DV.out.2.1 h1 z1
  rw [if_pos (by rfl)]
  refine Lib.wp_append_run _ (.tmp 7) (.tmp 9) 23 23 rfl (.slice (some ⟨g1,0,none⟩) 0 0) (.slice a1 d.nc c1) rfl rfl _ _ hr ?_
  replace I:=hid hI
  replace H:=I.out.h
  clear hr hI
  refine hK.out _ _ H (fun _ => ?_)
  clear hK KK
  refine ch16 ?_
  apply tg11
  rotate_left
  exact trivial
  replace I:=hid I.out.lit2
  go_simp
  generalize (u3.alloc (.cells #[] 9)) = u4 at *
  generalize u3.heap.size = g2 at *
  replace H:=I.out.h
  refine hK.out _ _ H (fun _ => ?_)
  clear hK KK
  refine ch16 ?_
  apply tg10
  rotate_left
  exact trivial
 case' q9 | q9 | q9 =>
  refine rdH (i:=4) (by kernel_rfl) rfl (fun KK hK => ?_)
  replace I:=hid I.out.lit1
  go_simp
  generalize (u3.alloc (.cells #[] 60)) = u4 at *
  generalize u3.heap.size = g1 at *
  replace H:=I.out.h
  refine hK.out _ _ H (fun _ => ?_)
  clear hK KK
  refine ch16 ?_
 case' q8 | q8 | q8 | q8 | q6 | q6 | q10 | q10 | q10 | q9 | q9 | q9 =>
  refine rdH (i:=7) (by kernel_rfl) rfl (fun KK hK => ?_)
  obtain ⟨i1,k1,u5,hr,hI⟩:=I.out.app1 a1 c1 DV.out.2.1 h1 z1
  rw [if_pos (by rfl)]
  refine Lib.wp_append_run _ (.tmp 7) (.tmp 9) 23 23 rfl (.slice (some ⟨g1,0,none⟩) 0 0) (.slice a1 d.nc c1) rfl rfl _ _ hr ?_
  replace I:=hid hI
  replace H:=I.out.h
  clear hr hI
  refine hK.out _ _ H (fun _ => ?_)
  clear hK KK
  refine ch16 ?_
 case' q11 | q11 | q11 =>
  refine rdH (i:=8) (by kernel_rfl) rfl (fun KK hK => ?_)
  replace I:=hid I.out.lit2
  go_simp
  generalize (u4.alloc (.cells #[] 9)) = u5 at *
  generalize u4.heap.size = g2 at *
  replace H:=I.out.h
  refine hK.out _ _ H (fun _ => ?_)
  clear hK KK
  refine ch16 ?_
 case' q8 | q8 | q8 | q8 | q6 | q6 | q10 | q10 | q10 | q9 | q9 | q9 | q11 | q11 | q11 =>
  refine rdH (i:=11) (by kernel_rfl) rfl (fun KK hK => ?_)
  obtain ⟨i2,k2,u6,hr,hI⟩:=I.out.app2 a2 c2 DV.out.2.2 h2 z2
  rw [if_pos (by rfl)]
  refine Lib.wp_append_run _ (.tmp 11) (.tmp 13) 22 22 rfl (.slice (some ⟨g2,0,none⟩) 0 0) (.slice a2 d.ns c2) rfl rfl _ _ hr ?_
  replace I:=hid hI
  replace H:=I.out.h
  clear hr hI
  refine hK.out _ _ H (fun _ => ?_)
  clear hK KK
  refine ch16 ?_
  refine tkH (i:=12) (v:=.agg #[.slice i0 d.nb k0,.slice i1 d.nc k1,.slice i2 d.ns k2]) rfl (by kernel_rfl) (by rfl) ?_ H ?_
  ·intro w' hSw; go_simp
  refine ch16 ?_
 case' q8 | q8 | q8 | q8 | q6 | q6 | q10 | q10 | q10 | q9 | q9 | q9 | q11 | q11 | q11 =>
  refine rdH (i:=13) (by kernel_rfl) rfl (fun KK hK => ?_)
  obtain ⟨R3,B3,H,X3,G3⟩:=I.out
  have x0:=X3.c0
  have x1:=X3.c1
  have x2:=X3.c2
  have f0:=X3.fr 0
  have f1:=X3.fr 1
  have f2:=X3.fr 2
  have O5:OnlyB (w.heap.size + 1) u6 (((u6.setCell ⟨w.heap.size + 1,0,none⟩ (.slice i0 d.nb k0)).setCell ⟨w.heap.size + 1,1,none⟩ (.slice i1 d.nc k1)).setCell ⟨w.heap.size + 1,2,none⟩ (.slice i2 d.ns k2)):=(((OnlyB.refl _ u6).setCell 0 _).setCell 1 _).setCell 2 _
  have X5:Box3 (((u6.setCell ⟨w.heap.size + 1,0,none⟩ (.slice i0 d.nb k0)).setCell ⟨w.heap.size + 1,1,none⟩ (.slice i1 d.nc k1)).setCell ⟨w.heap.size + 1,2,none⟩ (.slice i2 d.ns k2)) (w.heap.size + 1) 25 (.slice i0 d.nb k0) (.slice i1 d.nc k1) (.slice i2 d.ns k2):=((X3.set0 _).set1 _).set2 _
  have R5:Hid (Rows3 (((u6.setCell ⟨w.heap.size + 1,0,none⟩ (.slice i0 d.nb k0)).setCell ⟨w.heap.size + 1,1,none⟩ (.slice i1 d.nc k1)).setCell ⟨w.heap.size + 1,2,none⟩ (.slice i2 d.ns k2)) w.heap.size d (.slice i0 d.nb k0) (.slice i1 d.nc k1) (.slice i2 d.ns k2)):=⟨own_mono (R3.t0.onlyB O5 (fun e => by have:=(World.ownsRow.lt R3.t0 _ e).1; omega)) (by omega),own_mono (R3.t1.onlyB O5 (fun e => by have:=(World.ownsRow.lt R3.t1 _ e).1; omega)) (by omega),own_mono (R3.t2.onlyB O5 (fun e => by have:=(World.ownsRow.lt R3.t2 _ e).1; omega)) (by omega),R3.n01,R3.n02,R3.n12⟩
  have B5:Hid (Below w.heap.size w (((u6.setCell ⟨w.heap.size + 1,0,none⟩ (.slice i0 d.nb k0)).setCell ⟨w.heap.size + 1,1,none⟩ (.slice i1 d.nc k1)).setCell ⟨w.heap.size + 1,2,none⟩ (.slice i2 d.ns k2))):=B3.trans (O5.toBelow (by omega) B3.size)
  have H':(((u6.setCell ⟨w.heap.size + 1,0,none⟩ (.slice i0 d.nb k0)).setCell ⟨w.heap.size + 1,1,none⟩ (.slice i1 d.nc k1)).setCell ⟨w.heap.size + 1,2,none⟩ (.slice i2 d.ns k2)).cell? ⟨w.heap.size,0,none⟩ = some (.slice a0 d.nb c0)∧(((u6.setCell ⟨w.heap.size + 1,0,none⟩ (.slice i0 d.nb k0)).setCell ⟨w.heap.size + 1,1,none⟩ (.slice i1 d.nc k1)).setCell ⟨w.heap.size + 1,2,none⟩ (.slice i2 d.ns k2)).cell? ⟨w.heap.size,1,none⟩ = some (.slice a1 d.nc c1)∧(((u6.setCell ⟨w.heap.size + 1,0,none⟩ (.slice i0 d.nb k0)).setCell ⟨w.heap.size + 1,1,none⟩ (.slice i1 d.nc k1)).setCell ⟨w.heap.size + 1,2,none⟩ (.slice i2 d.ns k2)).cell? ⟨w.heap.size,2,none⟩ = some (.slice a2 d.ns c2):=⟨(cellOf (O5.block w.heap.size (strBlock H.1) (by omega))).trans H.1,(cellOf (O5.block w.heap.size (strBlock H.2.1) (by omega))).trans H.2.1,(cellOf (O5.block w.heap.size (strBlock H.2.2) (by omega))).trans H.2.2⟩
  replace H:=H'
  clear H' O5 R3 B3 I
  go_simp
  generalize (((u6.setCell ⟨w.heap.size + 1,0,none⟩ (.slice i0 d.nb k0)).setCell ⟨w.heap.size + 1,1,none⟩ (.slice i1 d.nc k1)).setCell ⟨w.heap.size + 1,2,none⟩ (.slice i2 d.ns k2)) = u7 at *
  clear x0 x1 x2 f0 f1 f2 X3
  refine hK.out _ _ H (fun _ => ?_)
  clear hK KK
  refine ch16 ?_
 case' q8 | q8 | q8 | q8 | q6 | q6 | q10 | q10 | q10 | q9 | q9 | q9 | q11 | q11 | q11 =>
  refine wpAnyH_done (by kernel_rfl) ?_ _
  refine NoPanic.normal ?_
  have y0:=X5.c0
  have y1:=X5.c1
  have y2:=X5.c2
  clear X5 H
  go_wp2
  exact ret_cell (b:=w.heap.size + 1) (v:=.agg #[.slice i0 d.nb k0,.slice i1 d.nc k1,.slice i2 d.ns k2]) Tryz.results11 rfl (by go_simp) ⟨⟨_,_,_,rfl,R5.out⟩,B5.out⟩
def Dk.halfK (d:Dk) (k:Nat):Dk:=⟨d.nb,fun i => rdF d.A d.D (d.B i) (i:Int) k,d.nc,d.A,d.D,d.ns,d.S⟩
set_option maxRecDepth 100000 in
set_option maxHeartbeats 4000000 in
theorem l05Sync_any (d:Dk) (a0 a1 a2:Option Addr) (c0 c1 c2:Nat) (hd:d.Ok) (z0:a0 = none→c0 = 0) (z1:a1 = none→c1 = 0) (z2:a2 = none→c2 = 0) (w:World) (h:DiskV w d a0 a1 a2) :
  Calls Tryz.prog 57 #[.agg #[.slice a0 d.nb c0,.slice a1 d.nc c1,.slice a2 d.ns c2]] w fun e w' => (∃ v0 v1 v2,e = .returned (.agg #[v0,v1,v2])∧Rows3 w' w.heap.size d.synced v0 v1 v2)∧Below w.heap.size w w':=by
 have OW:Hid (∀ w:World,DiskV w d a0 a1 a2→Calls Tryz.prog 11 #[.agg #[.slice a0 d.nb c0,.slice a1 d.nc c1,.slice a2 d.ns c2]] w fun e w' => (∃ v0 v1 v2,e = .returned (.agg #[v0,v1,v2])∧Rows3 w' w.heap.size d v0 v1 v2)∧Below w.heap.size w w'):=fun w h => l05Own_any d a0 a1 a2 c0 c1 c2 (by have:=hd.nb2; omega) (by have:=hd.nc; omega) (by have:=hd.ns; have:=hd.nb2; omega) z0 z1 z2 w h
 have DV:Hid (DiskV w d a0 a1 a2):=h
 have A1:Below w.heap.size w ((w.alloc (.cells #[.slice a0 d.nb c0,.slice a1 d.nc c1,.slice a2 d.ns c2] 25)).alloc (.cells #[.slice none 0 0,.slice none 0 0,.slice none 0 0] 25)):=((Below.refl w.heap.size w).alloc (Nat.le_refl _) _).alloc (by simp) _
 have AA1:Hid (Below w.heap.size w ((w.alloc (.cells #[.slice a0 d.nb c0,.slice a1 d.nc c1,.slice a2 d.ns c2] 25)).alloc (.cells #[.slice none 0 0,.slice none 0 0,.slice none 0 0] 25))):=A1
 have X0:Hid (Box3 ((w.alloc (.cells #[.slice a0 d.nb c0,.slice a1 d.nc c1,.slice a2 d.ns c2] 25)).alloc (.cells #[.slice none 0 0,.slice none 0 0,.slice none 0 0] 25)) (w.heap.size + 1) 25 (.slice none 0 0) (.slice none 0 0) (.slice none 0 0)):=Box3.madeAt (by simp) _ _ _ _
 have Y0:Hid (Box3 ((w.alloc (.cells #[.slice a0 d.nb c0,.slice a1 d.nc c1,.slice a2 d.ns c2] 25)).alloc (.cells #[.slice none 0 0,.slice none 0 0,.slice none 0 0] 25)) w.heap.size 25 (.slice a0 d.nb c0) (.slice a1 d.nc c1) (.slice a2 d.ns c2)):=(Box3.made w _ _ _ _).alloc _
 have G0:w.heap.size + 2≤((w.alloc (.cells #[.slice a0 d.nb c0,.slice a1 d.nc c1,.slice a2 d.ns c2] 25)).alloc (.cells #[.slice none 0 0,.slice none 0 0,.slice none 0 0] 25)).heap.size:=by simp
 clear h A1 z0 z1 z2
 go_enter Tryz.func57,Tryz.ntmps57
 go_wp2_with fail
 generalize ((w.alloc (.cells #[.slice a0 d.nb c0,.slice a1 d.nc c1,.slice a2 d.ns c2] 25)).alloc (.cells #[.slice none 0 0,.slice none 0 0,.slice none 0 0] 25)) = u at *
 refine (OW.out _ (DV.out.below AA1.out)).mono ?_
 rintro e w1 ⟨⟨v0,v1,v2,rfl,hR⟩,hb⟩
 obtain ⟨i0,k0,rfl,-⟩:=hR.t0.form
 obtain ⟨i1,k1,rfl,-⟩:=hR.t1.form
 obtain ⟨i2,k2,rfl,-⟩:=hR.t2.form
 have bA:Below w1.heap.size w1 (w1.alloc (.cells #[.slice i0 d.nb k0,.slice i1 d.nc k1,.slice i2 d.ns k2] 25)):=(Below.refl _ _).alloc (Nat.le_refl _) _
 have B1:Below w.heap.size w w1:=AA1.out.trans (hb.mono AA1.out.size)
 have LT:Hid ((∀ g,(Value.slice i0 d.nb k0).ownBlock = some g→g < w1.heap.size)∧(∀ g,(Value.slice i1 d.nc k1).ownBlock = some g→g < w1.heap.size)∧(∀ g,(Value.slice i2 d.ns k2).ownBlock = some g→g < w1.heap.size)):=⟨fun g e => (World.ownsRow.lt hR.t0 g e).2,fun g e => (World.ownsRow.lt hR.t1 g e).2,fun g e => (World.ownsRow.lt hR.t2 g e).2⟩
 have G1:w.heap.size + 2≤w1.heap.size:=Nat.le_trans G0 hb.size
 have I1:Hid (Box3 (w1.alloc (.cells #[.slice i0 d.nb k0,.slice i1 d.nc k1,.slice i2 d.ns k2] 25)) w.heap.size 25 (.slice a0 d.nb c0) (.slice a1 d.nc c1) (.slice a2 d.ns c2)∧Box3 (w1.alloc (.cells #[.slice i0 d.nb k0,.slice i1 d.nc k1,.slice i2 d.ns k2] 25)) (w.heap.size + 1) 25 (.slice none 0 0) (.slice none 0 0) (.slice none 0 0)∧Box3 (w1.alloc (.cells #[.slice i0 d.nb k0,.slice i1 d.nc k1,.slice i2 d.ns k2] 25)) w1.heap.size 25 (.slice i0 d.nb k0) (.slice i1 d.nc k1) (.slice i2 d.ns k2)∧Rows3 (w1.alloc (.cells #[.slice i0 d.nb k0,.slice i1 d.nc k1,.slice i2 d.ns k2] 25)) (w.heap.size + 2) (d.halfK 0) (.slice i0 d.nb k0) (.slice i1 d.nc k1) (.slice i2 d.ns k2)∧Below w.heap.size w (w1.alloc (.cells #[.slice i0 d.nb k0,.slice i1 d.nc k1,.slice i2 d.ns k2] 25))) :=
  ⟨(Y0.out.below hb).below bA,(X0.out.below hb).below bA,Box3.made _ _ _ _ _,(show Rows3 w1 (w.heap.size + 2) (d.halfK 0) _ _ _ from ⟨own_mono hR.t0 G0,own_mono hR.t1 G0,own_mono hR.t2 G0,hR.n01,hR.n02,hR.n12⟩).below bA,B1.trans (bA.mono B1.size)⟩
 clear hR hb bA B1 AA1 X0 Y0 OW G0
 go_wp2_with fail
 generalize (w1.alloc (.cells #[.slice i0 d.nb k0,.slice i1 d.nc k1,.slice i2 d.ns k2] 25)) = w2 at *
 generalize w1.heap.size = z at *
 go_loopw [4] (fun t wr => ∃ k:Nat,k≤d.nc∧t = .int .i64 (k:Int)∧Box3 wr w.heap.size 25 (.slice a0 d.nb c0) (.slice a1 d.nc c1) (.slice a2 d.ns c2)∧Box3 wr (w.heap.size + 1) 25 (.slice none 0 0) (.slice none 0 0) (.slice none 0 0)∧Box3 wr z 25 (.slice i0 d.nb k0) (.slice i1 d.nc k1) (.slice i2 d.ns k2)∧Rows3 wr (w.heap.size + 2) (d.halfK k) (.slice i0 d.nb k0) (.slice i1 d.nc k1) (.slice i2 d.ns k2)∧Below w.heap.size w wr) (fun t _ => d.nc - (intOf t).toNat)
 case atStart => exact ⟨0,by omega,rfl,I1.out⟩
 case round =>
  clear I1
  obtain ⟨k,hk,rfl,hY,hX,hZ,hR,hb⟩:=hrel
  have hc3:=hd.nc
  by_cases hlt:k < d.nc
  ·have hlt':(k:Int) < (d.nc:Int):=by omega
   obtain ⟨x,hxA⟩:∃ x:Nat,d.A k = (x:Int):=⟨(d.A k).toNat,by have:=(hd.C k hlt).1; omega⟩
   have hx:x < d.nb:=by have:=(hd.C k hlt).1; omega
   have hx':(x:Int) < (d.nb:Int):=by omega
   obtain ⟨b1,o1,ea1,hp⟩:=(DV.out.2.1.below hb).opened (by omega)
   obtain ⟨q1,q2⟩:=hp k hlt
   rw [hxA] at q1
   obtain ⟨g0,c0',e0,r0,hBg0,-,hgl0⟩:=hR.t0.pos (by show 0 < d.nb; omega)
   cases e0
   have cx:=r0.c x hx
   have fx:=r0.z x hx
   have gz:g0≠z:=Nat.ne_of_lt (LT.out.1 g0 rfl)
   have O4:OnlyB g0 wr (wr.setCell ⟨g0,x,none⟩ (.string (d.D k))):=(OnlyB.refl g0 _).setCell x _
   have D4:Below (wr.setCell ⟨g0,x,none⟩ (.string (d.D k))).heap.size (wr.setCell ⟨g0,x,none⟩ (.string (d.D k))) (wr.setCell ⟨g0,x,none⟩ (.string (d.D k))).drew:=(Below.refl _ _).drew
   have HF:Hid (∃ k':Nat,k'≤d.nc∧Value.int .i64 ((k:Int) + 1) = .int .i64 (k':Int)∧Box3 (wr.setCell ⟨g0,x,none⟩ (.string (d.D k))).drew w.heap.size 25 (.slice a0 d.nb c0) (.slice a1 d.nc c1) (.slice a2 d.ns c2)∧Box3 (wr.setCell ⟨g0,x,none⟩ (.string (d.D k))).drew (w.heap.size + 1) 25 (.slice none 0 0) (.slice none 0 0) (.slice none 0 0)∧Box3 (wr.setCell ⟨g0,x,none⟩ (.string (d.D k))).drew z 25 (.slice (some ⟨g0,0,none⟩) d.nb k0) (.slice i1 d.nc k1) (.slice i2 d.ns k2)∧Rows3 (wr.setCell ⟨g0,x,none⟩ (.string (d.D k))).drew (w.heap.size + 2) (d.halfK k') (.slice (some ⟨g0,0,none⟩) d.nb k0) (.slice i1 d.nc k1) (.slice i2 d.ns k2)∧Below w.heap.size w (wr.setCell ⟨g0,x,none⟩ (.string (d.D k))).drew):=⟨k + 1,by omega,by go_num,(hY.ofBlock (O4.block _ hY.lt (by omega))).below D4,(hX.ofBlock (O4.block _ hX.lt (by omega))).below D4,(hZ.ofBlock (O4.block _ hZ.lt (Ne.symm gz))).below D4,Rows3.below ⟨(hR.t0.put x (d.D k)).congr (fun i _ => by
     show (if i = x then d.D k else rdF d.A d.D (d.B i) (i:Int) k) = (if d.A k = (i:Int) then d.D k else rdF d.A d.D (d.B i) (i:Int) k)
     by_cases e:i = x
     ·rw [if_pos e,if_pos (by omega)]
     ·rw [if_neg e,if_neg (by omega)]),hR.t1.onlyB O4 (hR.n01 g0 rfl),hR.t2.onlyB O4 (hR.n02 g0 rfl),hR.n01,hR.n02,hR.n12⟩ D4,(hb.trans (O4.toBelow (by omega) hb.size)).drew⟩
   have y1:=hY.c1
   have zz0:=hZ.c0
   subst ea1
   clear hY hX hZ hR hb hp O4 D4 r0
   go_wp2_with fail
   go_region
   go_wp2
   go_roundw
   case rel => exact HF.out
   case measure => simp [intOf]; omega
  ·have hlt':¬ (k:Int) < (d.nc:Int):=by omega
   obtain rfl:k = d.nc:=by omega
   have y1:=hY.c1
   have e0:=hZ.c0
   have e1:=hZ.c1
   have e2:=hZ.c2
   have f1:=hZ.fr 1
   have x0:=hX.c0
   have x1:=hX.c1
   have x2:=hX.c2
   have g0:=hX.fr 0
   have g1:=hX.fr 1
   have g2:=hX.fr 2
   have hzl:=hZ.lt
   have hxl:=hX.lt
   have hzs:w.heap.size + 1≠z:=by omega
   have OZ:OnlyB z wr (wr.setCell ⟨z,1,none⟩ (.slice (some ⟨wr.heap.size,0,none⟩) 0 0)):=(OnlyB.refl z wr).setCell 1 _
   have OX:OnlyB (w.heap.size + 1) (wr.setCell ⟨z,1,none⟩ (.slice (some ⟨wr.heap.size,0,none⟩) 0 0)) ((((wr.setCell ⟨z,1,none⟩ (.slice (some ⟨wr.heap.size,0,none⟩) 0 0)).setCell ⟨w.heap.size + 1,0,none⟩ (.slice i0 d.nb k0)).setCell ⟨w.heap.size + 1,1,none⟩ (.slice (some ⟨wr.heap.size,0,none⟩) 0 0)).setCell ⟨w.heap.size + 1,2,none⟩ (.slice i2 d.ns k2)):=(((OnlyB.refl _ (wr.setCell ⟨z,1,none⟩ (.slice (some ⟨wr.heap.size,0,none⟩) 0 0))).setCell 0 _).setCell 1 _).setCell 2 _
   have hsz:((((wr.setCell ⟨z,1,none⟩ (.slice (some ⟨wr.heap.size,0,none⟩) 0 0)).setCell ⟨w.heap.size + 1,0,none⟩ (.slice i0 d.nb k0)).setCell ⟨w.heap.size + 1,1,none⟩ (.slice (some ⟨wr.heap.size,0,none⟩) 0 0)).setCell ⟨w.heap.size + 1,2,none⟩ (.slice i2 d.ns k2)).heap.size = wr.heap.size:=by simp
   have bA:Below ((((wr.setCell ⟨z,1,none⟩ (.slice (some ⟨wr.heap.size,0,none⟩) 0 0)).setCell ⟨w.heap.size + 1,0,none⟩ (.slice i0 d.nb k0)).setCell ⟨w.heap.size + 1,1,none⟩ (.slice (some ⟨wr.heap.size,0,none⟩) 0 0)).setCell ⟨w.heap.size + 1,2,none⟩ (.slice i2 d.ns k2)).heap.size ((((wr.setCell ⟨z,1,none⟩ (.slice (some ⟨wr.heap.size,0,none⟩) 0 0)).setCell ⟨w.heap.size + 1,0,none⟩ (.slice i0 d.nb k0)).setCell ⟨w.heap.size + 1,1,none⟩ (.slice (some ⟨wr.heap.size,0,none⟩) 0 0)).setCell ⟨w.heap.size + 1,2,none⟩ (.slice i2 d.ns k2)) (((((wr.setCell ⟨z,1,none⟩ (.slice (some ⟨wr.heap.size,0,none⟩) 0 0)).setCell ⟨w.heap.size + 1,0,none⟩ (.slice i0 d.nb k0)).setCell ⟨w.heap.size + 1,1,none⟩ (.slice (some ⟨wr.heap.size,0,none⟩) 0 0)).setCell ⟨w.heap.size + 1,2,none⟩ (.slice i2 d.ns k2)).alloc (.cells #[] 60)):=(Below.refl _ _).alloc (Nat.le_refl _) _
   have X5:Hid (Box3 (((((wr.setCell ⟨z,1,none⟩ (.slice (some ⟨wr.heap.size,0,none⟩) 0 0)).setCell ⟨w.heap.size + 1,0,none⟩ (.slice i0 d.nb k0)).setCell ⟨w.heap.size + 1,1,none⟩ (.slice (some ⟨wr.heap.size,0,none⟩) 0 0)).setCell ⟨w.heap.size + 1,2,none⟩ (.slice i2 d.ns k2)).alloc (.cells #[] 60)) (w.heap.size + 1) 25 (.slice i0 d.nb k0) (.slice (some ⟨wr.heap.size,0,none⟩) 0 0) (.slice i2 d.ns k2)):=((((hX.ofBlock (OZ.block _ hX.lt hzs)).set0 _).set1 _).set2 _).alloc _
   have t1':PnR (((((wr.setCell ⟨z,1,none⟩ (.slice (some ⟨wr.heap.size,0,none⟩) 0 0)).setCell ⟨w.heap.size + 1,0,none⟩ (.slice i0 d.nb k0)).setCell ⟨w.heap.size + 1,1,none⟩ (.slice (some ⟨wr.heap.size,0,none⟩) 0 0)).setCell ⟨w.heap.size + 1,2,none⟩ (.slice i2 d.ns k2)).alloc (.cells #[] 60)) w.heap.size (.slice (some ⟨wr.heap.size,0,none⟩) 0 0) 0 d.A d.D:=by
    have:=PnR.lit ((((wr.setCell ⟨z,1,none⟩ (.slice (some ⟨wr.heap.size,0,none⟩) 0 0)).setCell ⟨w.heap.size + 1,0,none⟩ (.slice i0 d.nb k0)).setCell ⟨w.heap.size + 1,1,none⟩ (.slice (some ⟨wr.heap.size,0,none⟩) 0 0)).setCell ⟨w.heap.size + 1,2,none⟩ (.slice i2 d.ns k2)) w.heap.size (by rw [hsz]; exact hb.size) d.A d.D
    rw [hsz] at this
    exact this
   have T0:TxR (((((wr.setCell ⟨z,1,none⟩ (.slice (some ⟨wr.heap.size,0,none⟩) 0 0)).setCell ⟨w.heap.size + 1,0,none⟩ (.slice i0 d.nb k0)).setCell ⟨w.heap.size + 1,1,none⟩ (.slice (some ⟨wr.heap.size,0,none⟩) 0 0)).setCell ⟨w.heap.size + 1,2,none⟩ (.slice i2 d.ns k2)).alloc (.cells #[] 60)) w.heap.size (.slice i0 d.nb k0) d.nb d.rd:=own_mono (((hR.t0.onlyB OZ (fun e => Nat.lt_irrefl _ (LT.out.1 _ e))).onlyB OX (fun e => by have:=(World.ownsRow.lt hR.t0 _ e).1; omega)).below bA) (Nat.le_add_right _ _)
   have T2:TxR (((((wr.setCell ⟨z,1,none⟩ (.slice (some ⟨wr.heap.size,0,none⟩) 0 0)).setCell ⟨w.heap.size + 1,0,none⟩ (.slice i0 d.nb k0)).setCell ⟨w.heap.size + 1,1,none⟩ (.slice (some ⟨wr.heap.size,0,none⟩) 0 0)).setCell ⟨w.heap.size + 1,2,none⟩ (.slice i2 d.ns k2)).alloc (.cells #[] 60)) w.heap.size (.slice i2 d.ns k2) d.ns d.S:=own_mono (((hR.t2.onlyB OZ (fun e => Nat.lt_irrefl _ (LT.out.2.2 _ e))).onlyB OX (fun e => by have:=(World.ownsRow.lt hR.t2 _ e).1; omega)).below bA) (Nat.le_add_right _ _)
   have R5:Hid (Rows3 (((((wr.setCell ⟨z,1,none⟩ (.slice (some ⟨wr.heap.size,0,none⟩) 0 0)).setCell ⟨w.heap.size + 1,0,none⟩ (.slice i0 d.nb k0)).setCell ⟨w.heap.size + 1,1,none⟩ (.slice (some ⟨wr.heap.size,0,none⟩) 0 0)).setCell ⟨w.heap.size + 1,2,none⟩ (.slice i2 d.ns k2)).alloc (.cells #[] 60)) w.heap.size d.synced (.slice i0 d.nb k0) (.slice (some ⟨wr.heap.size,0,none⟩) 0 0) (.slice i2 d.ns k2)):=⟨T0,t1',T2,fun g h1 h2 => by have:=LT.out.1 g h1; have:wr.heap.size = g:=Option.some.inj h2; omega,hR.n02,fun g h1 h2 => by have:=LT.out.2.2 g h2; have:wr.heap.size = g:=Option.some.inj h1; omega⟩
   have B5:Hid (Below w.heap.size w (((((wr.setCell ⟨z,1,none⟩ (.slice (some ⟨wr.heap.size,0,none⟩) 0 0)).setCell ⟨w.heap.size + 1,0,none⟩ (.slice i0 d.nb k0)).setCell ⟨w.heap.size + 1,1,none⟩ (.slice (some ⟨wr.heap.size,0,none⟩) 0 0)).setCell ⟨w.heap.size + 1,2,none⟩ (.slice i2 d.ns k2)).alloc (.cells #[] 60))):=by
    have q1:=hb.trans (OZ.toBelow (B:=w.heap.size) (by omega) hb.size)
    have q2:=q1.trans (OX.toBelow (B:=w.heap.size) (by omega) q1.size)
    exact q2.trans (bA.mono q2.size)
   clear OZ OX bA t1' T0 T2 hsz hR hY hZ hX hb
   go_wp2
   generalize (((((wr.setCell ⟨z,1,none⟩ (.slice (some ⟨wr.heap.size,0,none⟩) 0 0)).setCell ⟨w.heap.size + 1,0,none⟩ (.slice i0 d.nb k0)).setCell ⟨w.heap.size + 1,1,none⟩ (.slice (some ⟨wr.heap.size,0,none⟩) 0 0)).setCell ⟨w.heap.size + 1,2,none⟩ (.slice i2 d.ns k2)).alloc (.cells #[] 60)) = u5 at *
   have y0:=X5.out.c0
   have y1':=X5.out.c1
   have y2:=X5.out.c2
   clear x0 x1 x2 e0 e1 e2 f1 g0 g1 g2 y1
   exact ret_cell (b:=w.heap.size + 1) (v:=.agg #[.slice i0 d.nb k0,(.slice (some ⟨wr.heap.size,0,none⟩) 0 0),.slice i2 d.ns k2]) Tryz.results57 rfl (by go_simp) ⟨⟨_,_,_,rfl,R5.out⟩,B5.out⟩
theorem cell_alloc_at {w:World} {b:Nat} (hb:w.heap.size = b) (cs:Array Value) (t:TypeId) (i:Nat):(w.alloc (.cells cs t)).cell? ⟨b,i,none⟩ = cs[i]?:=by
 subst hb
 have h:=(MapKept.heap_alloc w (.cells cs t)).1
 unfold World.cell?
 show (match (w.alloc (.cells cs t)).heap[w.heap.size]? with | some (.cells c _ _) => c[i]? | _ => none) = _
 rw [h]
def codeF:Nat→Int
 | 0 => 0
 | 1 => 4
 | 2 => 2
 | 3 => 7
 | 4 => 5
 | _ => 3
theorem TxR.own {w:World} {B:Nat} {v:Value} {n:Nat} {f:Nat→ByteArray} (h:TxR w B v n f) (hn:0 < n):v.ownBlock = some (rowOf v):=by
 obtain ⟨g,c,rfl,-⟩:=h.pos hn
 rfl
theorem PnR.own {w:World} {B:Nat} {v:Value} {n:Nat} {A:Nat→Int} {D:Nat→ByteArray} (h:PnR w B v n A D) (hn:0 < n):v.ownBlock = some (rowOf v):=by
 obtain ⟨g,c,rfl,-⟩:=h.pos hn
 rfl
theorem Rows3.rowD {w:World} {B:Nat} {d:Dk} {v0 v1 v2:Value} (h:Rows3 w B d v0 v1 v2):∃ (a0 a1 a2:Option Addr) (c0 c1 c2 g0 g1 g2:Nat),v0 = .slice a0 d.nb c0∧v1 = .slice a1 d.nc c1∧v2 = .slice a2 d.ns c2∧RowD w d a0 a1 a2 g0 g1 g2∧(0 < d.nb→B≤g0)∧(0 < d.nc→B≤g1)∧(0 < d.ns→B≤g2):=by
 obtain ⟨a0,c0,e0,r0,b0,-⟩:=h.t0.form
 obtain ⟨a1,c1,e1,r1,b1,-⟩:=h.t1.form
 obtain ⟨a2,c2,e2,r2,b2,-⟩:=h.t2.form
 exact ⟨a0,a1,a2,c0,c1,c2,_,_,_,e0,e1,e2,⟨r0,r1,r2,fun x y e => h.n01 _ (h.t0.own x) (e ▸ h.t1.own y),fun x y e => h.n02 _ (h.t0.own x) (e ▸ h.t2.own y),fun x y e => h.n12 _ (h.t1.own x) (e ▸ h.t2.own y)⟩,b0,b1,b2⟩
theorem Drv.rows {w:World} {B q b:Nat} {d:Dk} {v0 v1 v2:Value} (h:Drv w B q b d v0 v1 v2):Rows3 w B d v0 v1 v2:=⟨h.t0,h.t1,h.t2,h.n01,h.n02,h.n12⟩
theorem TxR.cap {w:World} {B:Nat} {a:Option Addr} {n c:Nat} {f:Nat→ByteArray} (h:TxR w B (.slice a n c) n f):a = none→c = 0:=by
 obtain ⟨hl,⟨e,-⟩ | ⟨g,cap,cur,e,-⟩⟩:=h
 ·cases e; intro _; rfl
 ·cases e; intro h; cases h
theorem PnR.cap {w:World} {B:Nat} {a:Option Addr} {n c:Nat} {A:Nat→Int} {D:Nat→ByteArray} (h:PnR w B (.slice a n c) n A D):a = none→c = 0:=by
 obtain ⟨hl,⟨e,-⟩ | ⟨g,cap,cur,e,-⟩⟩:=h
 ·cases e; intro _; rfl
 ·cases e; intro h; cases h
def RetS (w':World) (e:Ending) (d:Dk) (code:Int):Prop:=∃ (a0 a1 a2:Option Addr) (c0 c1 c2:Nat),e = .returned (.tuple #[.agg #[.slice a0 d.nb c0,.slice a1 d.nc c1,.slice a2 d.ns c2],.int .i64 code])∧DiskV w' d a0 a1 a2∧(a0 = none→c0 = 0)∧(a1 = none→c1 = 0)∧(a2 = none→c2 = 0)
theorem Rows3.diskV {w:World} {B:Nat} {d:Dk} {v0 v1 v2:Value} (h:Rows3 w B d v0 v1 v2):∃ (a0 a1 a2:Option Addr) (c0 c1 c2:Nat),v0 = .slice a0 d.nb c0∧v1 = .slice a1 d.nc c1∧v2 = .slice a2 d.ns c2∧DiskV w d a0 a1 a2∧(a0 = none→c0 = 0)∧(a1 = none→c1 = 0)∧(a2 = none→c2 = 0):=by
 obtain ⟨h0,h1,h2,-⟩:=h
 obtain ⟨a0,c0,rfl,r0,-⟩:=h0.form
 obtain ⟨a1,c1,rfl,r1,-⟩:=h1.form
 obtain ⟨a2,c2,rfl,r2,-⟩:=h2.form
 exact ⟨a0,a1,a2,c0,c1,c2,rfl,rfl,rfl,⟨r0.strs,r1.pens,r2.strs⟩,h0.cap,h1.cap,h2.cap⟩
def Fr (w:World) (B:Nat) (x a:Option Addr):Prop:=a = x∨a = none∨∃ g,a = some ⟨g,0,none⟩∧B≤g∧g < w.heap.size
def RetT (B:Nat) (x0 x1 x2:Option Addr) (w':World) (e:Ending) (d:Dk) (code:Int):Prop:=∃ (a0 a1 a2:Option Addr) (c0 c1 c2:Nat),e = .returned (.tuple #[.agg #[.slice a0 d.nb c0,.slice a1 d.nc c1,.slice a2 d.ns c2],.int .i64 code])∧DiskV w' d a0 a1 a2∧(a0 = none→c0 = 0)∧(a1 = none→c1 = 0)∧(a2 = none→c2 = 0)∧Fr w' B x0 a0∧Fr w' B x1 a1∧Fr w' B x2 a2
theorem ownsRow_fr {w:World} {B B':Nat} {e:TypeId} {size:Nat} {a x:Option Addr} {n c m:Nat} {xs:List Value} (h:w.ownsRow B e size (.slice a n c) m xs) (hB:B'≤B):Fr w B' x a:=by
 have hlt:=World.ownsRow.lt h
 obtain ⟨hl,⟨e,_⟩ | ⟨g,cap,cur,e,hb,_⟩⟩:=h
 ·cases e; exact .inr (.inl rfl)
 ·cases e; exact .inr (.inr ⟨g,rfl,Nat.le_trans hB hb,(hlt g rfl).2⟩)
theorem Rows3.fr0 {w:World} {B B':Nat} {d:Dk} {a x:Option Addr} {c:Nat} {v1 v2:Value} (h:Rows3 w B d (.slice a d.nb c) v1 v2) (hB:B'≤B):Fr w B' x a:=ownsRow_fr h.t0 hB
theorem Rows3.fr1 {w:World} {B B':Nat} {d:Dk} {a x:Option Addr} {c:Nat} {v0 v2:Value} (h:Rows3 w B d v0 (.slice a d.nc c) v2) (hB:B'≤B):Fr w B' x a:=ownsRow_fr h.t1 hB
theorem Rows3.fr2 {w:World} {B B':Nat} {d:Dk} {a x:Option Addr} {c:Nat} {v0 v1:Value} (h:Rows3 w B d v0 v1 (.slice a d.ns c)) (hB:B'≤B):Fr w B' x a:=ownsRow_fr h.t2 hB
set_option maxRecDepth 100000 in
set_option maxHeartbeats 2000000 in
theorem step_sync (d:Dk) (a:Ac) (a0 a1 a2 ak:Option Addr) (c0 c1 c2 ck:Nat) (hd:d.Ok) (z0:a0 = none→c0 = 0) (z1:a1 = none→c1 = 0) (z2:a2 = none→c2 = 0) (w:World) (h:DiskV w d a0 a1 a2) (hk:a.kd = 2) :
  Calls Tryz.prog 40 #[.agg #[.slice a0 d.nb c0,.slice a1 d.nc c1,.slice a2 d.ns c2],.agg #[.int .i64 2,.int .i64 a.x,.string a.s,.slice ak a.nk ck,.int .i64 a.t]] w fun e w' => RetT w.heap.size a0 a1 a2 w' e (d.done a) (codeF (d.fault a))∧Below w.heap.size w w':=by
 have A1:Below w.heap.size w (((w.alloc (.cells #[.slice a0 d.nb c0,.slice a1 d.nc c1,.slice a2 d.ns c2] 25)).alloc (.cells #[.int .i64 2,.int .i64 a.x,.string a.s,.slice ak a.nk ck,.int .i64 a.t] 53)).alloc (.cells #[.slice none 0 0,.slice none 0 0,.slice none 0 0] 25)):=(((Below.refl w.heap.size w).alloc (Nat.le_refl _) _).alloc (by simp) _).alloc (by simp; omega) _
 have AA1:Hid (Below w.heap.size w (((w.alloc (.cells #[.slice a0 d.nb c0,.slice a1 d.nc c1,.slice a2 d.ns c2] 25)).alloc (.cells #[.int .i64 2,.int .i64 a.x,.string a.s,.slice ak a.nk ck,.int .i64 a.t] 53)).alloc (.cells #[.slice none 0 0,.slice none 0 0,.slice none 0 0] 25))):=A1
 have X0:Hid (Box3 (((w.alloc (.cells #[.slice a0 d.nb c0,.slice a1 d.nc c1,.slice a2 d.ns c2] 25)).alloc (.cells #[.int .i64 2,.int .i64 a.x,.string a.s,.slice ak a.nk ck,.int .i64 a.t] 53)).alloc (.cells #[.slice none 0 0,.slice none 0 0,.slice none 0 0] 25)) (w.heap.size + 2) 25 (.slice none 0 0) (.slice none 0 0) (.slice none 0 0)):=Box3.madeAt (by simp) _ _ _ _
 have Y0:Hid (Box3 (((w.alloc (.cells #[.slice a0 d.nb c0,.slice a1 d.nc c1,.slice a2 d.ns c2] 25)).alloc (.cells #[.int .i64 2,.int .i64 a.x,.string a.s,.slice ak a.nk ck,.int .i64 a.t] 53)).alloc (.cells #[.slice none 0 0,.slice none 0 0,.slice none 0 0] 25)) w.heap.size 25 (.slice a0 d.nb c0) (.slice a1 d.nc c1) (.slice a2 d.ns c2)):=((Box3.made w _ _ _ _).alloc _).alloc _
 have DV:Hid (DiskV w d a0 a1 a2):=h
 have f:d.fault a = 0:=by unfold Dk.fault; simp [hk]
 have g:d.done a = d.synced:=by unfold Dk.done; rw [f]; unfold Dk.acted; simp [hk]
 have CC:Hid (Calls Tryz.prog 57 #[.agg #[.slice a0 d.nb c0,.slice a1 d.nc c1,.slice a2 d.ns c2]] (((w.alloc (.cells #[.slice a0 d.nb c0,.slice a1 d.nc c1,.slice a2 d.ns c2] 25)).alloc (.cells #[.int .i64 2,.int .i64 a.x,.string a.s,.slice ak a.nk ck,.int .i64 a.t] 53)).alloc (.cells #[.slice none 0 0,.slice none 0 0,.slice none 0 0] 25)) fun e w' => (∃ v0 v1 v2,e = .returned (.agg #[v0,v1,v2])∧Rows3 w' (((w.alloc (.cells #[.slice a0 d.nb c0,.slice a1 d.nc c1,.slice a2 d.ns c2] 25)).alloc (.cells #[.int .i64 2,.int .i64 a.x,.string a.s,.slice ak a.nk ck,.int .i64 a.t] 53)).alloc (.cells #[.slice none 0 0,.slice none 0 0,.slice none 0 0] 25)).heap.size d.synced v0 v1 v2)∧Below (((w.alloc (.cells #[.slice a0 d.nb c0,.slice a1 d.nc c1,.slice a2 d.ns c2] 25)).alloc (.cells #[.int .i64 2,.int .i64 a.x,.string a.s,.slice ak a.nk ck,.int .i64 a.t] 53)).alloc (.cells #[.slice none 0 0,.slice none 0 0,.slice none 0 0] 25)).heap.size (((w.alloc (.cells #[.slice a0 d.nb c0,.slice a1 d.nc c1,.slice a2 d.ns c2] 25)).alloc (.cells #[.int .i64 2,.int .i64 a.x,.string a.s,.slice ak a.nk ck,.int .i64 a.t] 53)).alloc (.cells #[.slice none 0 0,.slice none 0 0,.slice none 0 0] 25)) w'):=l05Sync_any d a0 a1 a2 c0 c1 c2 hd z0 z1 z2 _ (h.below A1)
 have G0:w.heap.size + 3≤(((w.alloc (.cells #[.slice a0 d.nb c0,.slice a1 d.nc c1,.slice a2 d.ns c2] 25)).alloc (.cells #[.int .i64 2,.int .i64 a.x,.string a.s,.slice ak a.nk ck,.int .i64 a.t] 53)).alloc (.cells #[.slice none 0 0,.slice none 0 0,.slice none 0 0] 25)).heap.size:=by simp
 rw [f,g]
 clear h A1 z0 z1 z2
 go_enter Tryz.func40,Tryz.ntmps40
 go_wp2_with fail
 generalize (((w.alloc (.cells #[.slice a0 d.nb c0,.slice a1 d.nc c1,.slice a2 d.ns c2] 25)).alloc (.cells #[.int .i64 2,.int .i64 a.x,.string a.s,.slice ak a.nk ck,.int .i64 a.t] 53)).alloc (.cells #[.slice none 0 0,.slice none 0 0,.slice none 0 0] 25)) = u at *
 refine (Calls.mono CC.out) ?_
 rintro e w1 ⟨⟨v0,v1,v2,rfl,hR⟩,hb⟩
 obtain ⟨i0,i1,i2,k0,k1,k2,rfl,rfl,rfl,-⟩:=hR.diskV
 have X1:=X0.out.below hb
 have x0:=X1.c0
 have x1:=X1.c1
 have x2:=X1.c2
 have f0:=X1.fr 0
 have f1:=X1.fr 1
 have f2:=X1.fr 2
 have B1:Below w.heap.size w w1:=AA1.out.trans (hb.mono AA1.out.size)
 have O5:OnlyB (w.heap.size + 2) w1 (((w1.setCell ⟨w.heap.size + 2,0,none⟩ (.slice i0 d.synced.nb k0)).setCell ⟨w.heap.size + 2,1,none⟩ (.slice i1 d.synced.nc k1)).setCell ⟨w.heap.size + 2,2,none⟩ (.slice i2 d.synced.ns k2)):=(((OnlyB.refl _ w1).setCell 0 _).setCell 1 _).setCell 2 _
 have X5:Hid (Box3 (((w1.setCell ⟨w.heap.size + 2,0,none⟩ (.slice i0 d.synced.nb k0)).setCell ⟨w.heap.size + 2,1,none⟩ (.slice i1 d.synced.nc k1)).setCell ⟨w.heap.size + 2,2,none⟩ (.slice i2 d.synced.ns k2)) (w.heap.size + 2) 25 (.slice i0 d.synced.nb k0) (.slice i1 d.synced.nc k1) (.slice i2 d.synced.ns k2)):=((X1.set0 _).set1 _).set2 _
 have R5:Hid (Rows3 (((w1.setCell ⟨w.heap.size + 2,0,none⟩ (.slice i0 d.synced.nb k0)).setCell ⟨w.heap.size + 2,1,none⟩ (.slice i1 d.synced.nc k1)).setCell ⟨w.heap.size + 2,2,none⟩ (.slice i2 d.synced.ns k2)) u.heap.size d.synced (.slice i0 d.synced.nb k0) (.slice i1 d.synced.nc k1) (.slice i2 d.synced.ns k2)):=⟨hR.t0.onlyB O5 (fun e => by have:=(World.ownsRow.lt hR.t0 _ e).1; omega),hR.t1.onlyB O5 (fun e => by have:=(World.ownsRow.lt hR.t1 _ e).1; omega),hR.t2.onlyB O5 (fun e => by have:=(World.ownsRow.lt hR.t2 _ e).1; omega),hR.n01,hR.n02,hR.n12⟩
 have B5:Hid (Below w.heap.size w (((w1.setCell ⟨w.heap.size + 2,0,none⟩ (.slice i0 d.synced.nb k0)).setCell ⟨w.heap.size + 2,1,none⟩ (.slice i1 d.synced.nc k1)).setCell ⟨w.heap.size + 2,2,none⟩ (.slice i2 d.synced.ns k2))):=B1.trans (O5.toBelow (by omega) B1.size)
 clear O5 X1 hR hb B1 CC X0 Y0 AA1 f g
 go_wp2
 generalize (((w1.setCell ⟨w.heap.size + 2,0,none⟩ (.slice i0 d.synced.nb k0)).setCell ⟨w.heap.size + 2,1,none⟩ (.slice i1 d.synced.nc k1)).setCell ⟨w.heap.size + 2,2,none⟩ (.slice i2 d.synced.ns k2)) = u5 at *
 clear x0 x1 x2 f0 f1 f2
 have y0:=X5.out.c0
 have y1:=X5.out.c1
 have y2:=X5.out.c2
 obtain ⟨j0,j1,j2,l0,l1,l2,e0,e1,e2,hv,q0,q1,q2⟩:=R5.out.diskV
 cases e0
 cases e1
 cases e2
 exact ret_cell2 (b:=w.heap.size + 2) (v:=.agg #[.slice i0 d.synced.nb k0,.slice i1 d.synced.nc k1,.slice i2 d.synced.ns k2]) Tryz.results40 rfl rfl (by go_simp) ⟨⟨_,_,_,_,_,_,rfl,hv,q0,q1,q2,R5.out.fr0 (by omega),R5.out.fr1 (by omega),R5.out.fr2 (by omega)⟩,B5.out⟩
end Go.Proofs.YtcpjeopnhgoonaaGreatDoor
