/-
  Texts of the proof, joined.
-/
import Derived.Test.YtcpjeopnhgoonaaGreatDoorF42
import Derived.Laws.CopyRow
namespace Go.Proofs.YtcpjeopnhgoonaaGreatDoor
open Go.ChangeShapes Go.WideShapes Go.ChangeAt Go.RowKit
set_option linter.unusedVariables false
def PlF (w:World) (kb wb q n b g:Nat) (k:ByteArray) (a0 a1 a2:Option Addr) (c0 c1 c2:Nat):Prop:=Box2 w kb 48 (.pointer (some ⟨q,0,none⟩)) (.string k)∧W6 w wb∧NwD w n q b a0 a1 a2 c0 c1 c2∧Strs w (some ⟨g,0,none⟩) 1 erF∧Tabs w
theorem PlF.below {w w':World} {kb wb q n b g:Nat} {k:ByteArray} {a0 a1 a2:Option Addr} {c0 c1 c2:Nat} (h:PlF w kb wb q n b g k a0 a1 a2 c0 c1 c2) (hb:Below w.heap.size w w'):PlF w' kb wb q n b g k a0 a1 a2 c0 c1 c2:=⟨h.1.below hb,h.2.1.below hb,h.2.2.1.below hb,h.2.2.2.1.below hb,h.2.2.2.2.below hb⟩
def PlI (v wr:World) (pb lb:Nat) (TK HK:ByteArray) (s i:Value):Prop:=Below v.heap.size v wr∧((i = .int .i64 0∧s = .slice none 0 0∧Box2 wr pb 74 (.int .i64 0) (.int .i64 0)∧Box2 wr lb 106 (.int .i64 0) (.string ⟨#[]⟩))∨(i = .int .i64 1∧(∃ ab ac,s = .slice (some ⟨ab,0,none⟩) 1 ac∧EO wr v.heap.size 53 5 (.slice (some ⟨ab,0,none⟩) 1 ac) 1 (avF (fun _ => ⟨1,2,TK,0,fun _ => false,0⟩)))∧Box2 wr pb 74 (.int .i64 2) (.int .i64 1)∧Box2 wr lb 106 (.int .i64 1) (.string HK)))
theorem Strs.cell0 {w:World} {g:Nat} (h:Strs w (some ⟨g,0,none⟩) 1 erF):w.cell? ⟨g,0,none⟩ = some (.string erP):=by
 obtain ⟨b,o,e,hc⟩:=h 0 (by omega)
 cases e
 exact hc
theorem cp0P (b:Nat) (ty:TypeId) (w:World):(Builtin.copy_ #[62,62] ty #[.slice (some ⟨b,0,none⟩) 1 1,.slice none 0 0]).run Tryz.prog w = .ok (goInt 0) w:=run_copy_nil _ w _ _ ty 74 _ 1 1 Tryz.underlying62 (by obtain ⟨i,hi,_⟩:=info_parts Tryz.infoPlc; rw [hi]; rfl)
theorem Tryz.infoLfE:(Tryz.prog.info? 106).map (fun i => (i.zero,i.size,i.bytes)) = some (some (.agg #[.int .i64 0,.string ⟨#[]⟩]),2,24):=by kernel_rfl
theorem cp0L (b:Nat) (ty:TypeId) (w:World):(Builtin.copy_ #[103,103] ty #[.slice (some ⟨b,0,none⟩) 1 1,.slice none 0 0]).run Tryz.prog w = .ok (goInt 0) w:=run_copy_nil _ w _ _ ty 106 _ 1 1 Tryz.underlying103 (by obtain ⟨i,hi,_⟩:=info_parts Tryz.infoLfE; rw [hi]; rfl)
theorem mc2 (a b:Value):madeCells #[a,b] 2 = #[a,b]:=by
 apply Array.ext
 ·simp [madeCells]
 ·intro i h1 h2
  simp [madeCells] at h1 ⊢
  rcases (show i = 0∨i = 1 by omega) with rfl | rfl <;> rfl
theorem mk1P (w:World):(Instr.makeSlice 62 (.int .i64 1) (.int .i64 1)).run Tryz.prog w = .ok (.slice (some ⟨w.heap.size,0,none⟩) 1 1) (w.alloc (.cells #[.int .i64 0,.int .i64 0] 74)):=by
 obtain ⟨i,hi,hz,hsz,hby⟩:=info_parts Tryz.infoPlc
 have hr:=run_make (P:=Tryz.prog) w 62 74 i _ Tryz.underlying62 hi hz .i64 .i64 1 1 (by omega) (Int.le_refl _) (by rw [hby]; omega) (by omega)
 rw [hsz] at hr
 rw [show Int.toNat 1 * 2 = 2 from rfl,show (Value.agg #[.int .i64 0,.int .i64 0]).cells = #[.int .i64 0,.int .i64 0] from rfl,mc2] at hr
 exact hr
theorem mk1L (w:World):(Instr.makeSlice 103 (.int .i64 1) (.int .i64 1)).run Tryz.prog w = .ok (.slice (some ⟨w.heap.size,0,none⟩) 1 1) (w.alloc (.cells #[.int .i64 0,.string ⟨#[]⟩] 106)):=by
 obtain ⟨i,hi,hz,hsz,hby⟩:=info_parts Tryz.infoLfE
 have hr:=run_make (P:=Tryz.prog) w 103 106 i _ Tryz.underlying103 hi hz .i64 .i64 1 1 (by omega) (Int.le_refl _) (by rw [hby]; omega) (by omega)
 rw [hsz] at hr
 rw [show Int.toNat 1 * 2 = 2 from rfl,show (Value.agg #[.int .i64 0,.string ⟨#[]⟩]).cells = #[.int .i64 0,.string ⟨#[]⟩] from rfl,mc2] at hr
 exact hr
set_option maxRecDepth 100000 in
set_option maxHeartbeats 8000000 in
theorem plan_new (k:ByteArray) (n q b g:Nat) (hk:k.size = 32) (hn:n≤64) (h4:4≤n) (a0 a1 a2:Option Addr) (c0 c1 c2:Nat) (w:World) (h:NwD w n q b a0 a1 a2 c0 c1 c2) (hp:Strs w (some ⟨g,0,none⟩) 1 erF) (ht:Tabs w) :
  Calls Tryz.prog 44 #[.agg #[.pointer (some ⟨q,0,none⟩),.string k],.int .i64 1,.slice (some ⟨g,0,none⟩) 1 1] w fun e w' => (∃ x c,e = .returned (.tuple #[.slice (some ⟨x,0,none⟩) 4 c,.string (erR k),.int .i64 0])∧w.heap.size≤x∧ActR w' x 4 (erAC k))∧Below w.heap.size w w':=by
 have A1:Hid (Below w.heap.size w (w.alloc (.cells #[.pointer (some ⟨q,0,none⟩),.string k] 48))):=(Below.refl _ _).alloc (Nat.le_refl _) _
 have K1:Hid (Box2 (w.alloc (.cells #[.pointer (some ⟨q,0,none⟩),.string k] 48)) w.heap.size 48 (.pointer (some ⟨q,0,none⟩)) (.string k)):=Box2.made _ _ _ _
 have D1:Hid (NwD (w.alloc (.cells #[.pointer (some ⟨q,0,none⟩),.string k] 48)) n q b a0 a1 a2 c0 c1 c2):=h.below A1.out
 have P1:Hid (Strs (w.alloc (.cells #[.pointer (some ⟨q,0,none⟩),.string k] 48)) (some ⟨g,0,none⟩) 1 erF):=hp.below A1.out
 have T1:Hid (Tabs (w.alloc (.cells #[.pointer (some ⟨q,0,none⟩),.string k] 48))):=ht.below A1.out
 have NN:Hid (∀ w:World,NwD w n q b a0 a1 a2 c0 c1 c2→Calls Tryz.prog 64 #[.agg #[.pointer (some ⟨q,0,none⟩),.string k]] w fun e w' => e = .returned (.agg #[.int .i64 0,.string ⟨#[]⟩,.slice none 0 0,.slice none 0 0,.slice none 0 0,.slice none 0 0])∧Below w.heap.size w w'):=fun w h => newest_new k n q b hn h4 a0 a1 a2 c0 c1 c2 w h
 have BE:Hid (∀ w:World,Calls Tryz.prog 65 #[.slice none 0 0,.int .i64 (n:Int)] w fun e w' => (∃ fg fc,e = .returned (.slice (some ⟨fg,0,none⟩) (n - 2) fc)∧CelI w' fg 2)∧Below w.heap.size w w'):=fun w => (beside_any none 0 0 n erC hn (by omega) w (fun i hi => absurd hi (Nat.not_lt_zero _))).mono (by
  rintro e w' ⟨⟨a',c',rfl,hi⟩,hb⟩
  rw [er_free_len erC n h4] at hi ⊢
  obtain ⟨fg,rfl,hc⟩:=IE.cel hi (by omega)
  rw [er_free_0 erC n h4] at hc
  exact ⟨⟨fg,c',rfl,hc⟩,hb⟩)
 have DT:Hid (∀ w:World,Strs w (some ⟨g,0,none⟩) 1 erF→Calls Tryz.prog 66 #[.slice none 0 0,.slice (some ⟨g,0,none⟩) 1 1] w fun e w' => (∃ dg dc,e = .returned (.tuple #[.slice (some ⟨dg,0,none⟩) 1 dc,.int .i64 0])∧CelI w' dg 0)∧Below w.heap.size w w'):=fun w h => (implDirty_any none (some ⟨g,0,none⟩) 0 1 0 1 erF erF [0] 0 er_dp w (fun i hi => absurd hi (Nat.not_lt_zero _)) h).mono (by
  rintro e w' ⟨⟨a',c',rfl,hi⟩,hb⟩
  obtain ⟨dg,rfl,hc⟩:=IE.cel hi (by simp)
  exact ⟨⟨dg,c',rfl,hc⟩,hb⟩)
 have SE:Hid (∀ w:World,Tabs w→Calls Tryz.prog 67 #[.string k,.int .i64 0,.int .i64 1,.string erP] w fun e w' => e = .returned (.tuple #[.string (erT k),.int .i64 0])∧Below w.heap.size w w'):=fun w h => implSealP_any k 0 1 erP (erT k) 0 (erT_is k hk) w h
 have PL:Hid (∀ w:World,Tabs w→Calls Tryz.prog 68 #[.int .i64 0,.int .i64 1,.string (erT k)] w fun e w' => e = .returned (.agg #[.int .i64 1,.string (erH k)])∧Below w.heap.size w w'):=fun w h => pieceLeaf_any 0 1 (erT k) (erH k) 0 (erH_is k) w h
 have RO:Hid (∀ (lb:Nat) (w:World),Box2 w lb 106 (.int .i64 1) (.string (erH k))→Tabs w→Calls Tryz.prog 69 #[.slice (some ⟨lb,0,none⟩) 1 1] w fun e w' => e = .returned (.string (erR k))∧Below w.heap.size w w'):=fun lb w h ht => rootOver_any (some ⟨lb,0,none⟩) 1 1 (erL k) (by omega) (Nat.le_refl _) (by unfold maxLen; omega) (fun i _ => erL_ok k i) w (fun i hi => ⟨lb,0,rfl,fun j hj => by
  obtain rfl:i = 0:=by omega
  rcases (show j = 0∨j = 1 by omega) with rfl | rfl
  ·exact h.c0
  ·exact h.c1⟩) ht
 have SB:Hid (∀ (pb:Nat) (w:World),Box2 w pb 74 (.int .i64 2) (.int .i64 1)→Calls Tryz.prog 70 #[.agg #[.int .i64 1,.slice (some ⟨pb,0,none⟩) 1 1,.string (erR k)]] w fun e w' => (∃ sg sc,e = .returned (.tuple #[.slice (some ⟨sg,0,none⟩) 37 sc,.int .i64 0])∧(convert 68 9 (.slice (some ⟨sg,0,none⟩) 37 sc)).run Tryz.prog w' = .ok (.string (erSup k)) w')∧Below w.heap.size w w'):=fun pb w h => (implSupBy_ok 1 (some ⟨pb,0,none⟩) 1 1 erC (erR k) (erS_ok k) ⟨(fun e => by cases e),.inr ⟨pb,0,rfl⟩,Nat.le_refl _,by unfold maxLen; omega⟩ w (fun i hi => ⟨pb,0,rfl,fun j hj => by
  obtain rfl:i = 0:=by omega
  rcases (show j = 0∨j = 1 by omega) with rfl | rfl
  ·exact h.c0
  ·exact h.c1⟩)).mono (by
  rintro e w' ⟨⟨a',c',rfl,ho⟩,hb⟩
  obtain ⟨sg,hr,_⟩:=OL.byR ho rfl
  rw [erS_len] at hr ⊢
  have hcd:=hr.code
  rcases hr with hz | ⟨rfl,_⟩
  ·cases hz
  ·exact ⟨⟨sg,c',rfl,kstr_of_code hcd⟩,hb⟩)
 have SA:Hid (∀ w:World,Tabs w→Calls Tryz.prog 71 #[.string k,.agg #[.int .i64 1,.string (erSup k)]] w fun e w' => (∃ x,e = .returned (.slice (some ⟨x,0,none⟩) 3 3)∧w.heap.size≤x∧PlanR w' x 1 (planT k 1 (erSup k)))∧Below w.heap.size w w'):=fun w h => slotActs_any k (erSup k) 1 hk (by omega) (by rw [erSup_size]; omega) w h
 have AC:Hid (∀ i,i < 4→erAC k i = catE 1 (fun _ => ⟨1,2,erT k,0,fun _ => false,0⟩) (fun i => if i = 1 then ⟨1,1,planT k 1 (erSup k),0,fun _ => false,0⟩ else ⟨2,0,⟨#[]⟩,0,fun _ => false,0⟩) i):=fun i hi => by
  rcases (show i = 0∨i = 1∨i = 2∨i = 3 by omega) with rfl | rfl | rfl | rfl <;> rfl
 generalize erAC k = AK at *
 generalize planT k 1 (erSup k) = PT at *
 generalize erSup k = SU at *
 generalize erR k = RK at *
 generalize erH k = HK at *
 generalize erT k = TK at *
 have N4:Hid (4≤n∧n≤64):=⟨h4,hn⟩
 clear h hp ht hn hk
 go_enter Tryz.func44,Tryz.ntmps44
 have t0:=K1.out.c0
 have t1:=K1.out.c1
 go_wp2_with fail
 generalize (w.alloc (.cells #[.pointer (some ⟨q,0,none⟩),.string k] 48)) = u at *
 refine (NN.out u D1.out).mono ?_
 rintro e v ⟨rfl,hb⟩
 have A2:Hid (Below w.heap.size w (v.alloc (.cells #[.int .i64 0,.string ⟨#[]⟩,.slice none 0 0,.slice none 0 0,.slice none 0 0,.slice none 0 0] 118))):=(A1.out.trans (hb.mono A1.out.size)).alloc (A1.out.trans (hb.mono A1.out.size)).size _
 have F2:Hid (PlF (v.alloc (.cells #[.int .i64 0,.string ⟨#[]⟩,.slice none 0 0,.slice none 0 0,.slice none 0 0,.slice none 0 0] 118)) w.heap.size v.heap.size q n b g k a0 a1 a2 c0 c1 c2):=by
  have hs:Below v.heap.size v (v.alloc (.cells #[.int .i64 0,.string ⟨#[]⟩,.slice none 0 0,.slice none 0 0,.slice none 0 0,.slice none 0 0] 118)):=(Below.refl v.heap.size v).alloc (Nat.le_refl _) _
  exact ⟨(K1.out.below hb).below hs,W6.made v,(D1.out.below hb).below hs,(P1.out.below hb).below hs,(T1.out.below hb).below hs⟩
 clear hb t0 t1 NN A1 K1 D1 P1 T1
 go_wp2
 generalize (v.alloc (.cells #[.int .i64 0,.string ⟨#[]⟩,.slice none 0 0,.slice none 0 0,.slice none 0 0,.slice none 0 0] 118)) = u2 at *
 generalize v.heap.size = wb at *
 clear v
 have hb:Below u2.heap.size u2 u2.drew:=(Below.refl _ _).drew
 have H:PlF u2.drew w.heap.size wb q n b g k a0 a1 a2 c0 c1 c2:=F2.out.below hb
 replace A2:=hid (A2.out.trans (hb.mono A2.out.size))
 clear hb F2
 refine wp_region_noPanic ?_
 refine wp_region_held_drew (S:=fun w' => PlF w' w.heap.size wb q n b g k a0 a1 a2 c0 c1 c2) (by kernel_rfl) H (fun _ => ?_)
 generalize u2.drew = y0 at *
 refine tkH (i:=0) (v:=.pointer (some ⟨wb,3,none⟩)) rfl (by kernel_rfl) (by rfl) ?_ H ?_
 ·intro w' hSw; go_simp
 refine ch137 ?_
 refine tkH (i:=1) (v:=.slice none 0 0) rfl (by kernel_rfl) (by rfl) ?_ H ?_
 ·intro w' hSw; obtain ⟨_,_,_,t3,_,_⟩:=hSw.2.1.cell; clear hSw; go_simp
 refine ch137 ?_
 refine tkH (i:=2) (v:=.pointer (some ⟨w.heap.size,0,none⟩)) rfl (by kernel_rfl) (by rfl) ?_ H ?_
 ·intro w' hSw; go_simp
 refine ch137 ?_
 refine tkH (i:=3) (v:=.pointer (some ⟨q,0,none⟩)) rfl (by kernel_rfl) (by rfl) ?_ H ?_
 ·intro w' hSw; have t0:=hSw.1.c0; clear hSw; go_simp
 refine ch137 ?_
 refine tkH (i:=4) (v:=.pointer (some ⟨q,0,none⟩)) rfl (by kernel_rfl) (by rfl) ?_ H ?_
 ·intro w' hSw; go_simp
 refine ch137 ?_
 refine tkH (i:=5) (v:=.pointer (some ⟨q,0,none⟩)) rfl (by kernel_rfl) (by rfl) ?_ H ?_
 ·intro w' hSw; go_simp
 refine ch137 ?_
 refine tkH (i:=6) (v:=.pointer (some ⟨q,0,none⟩)) rfl (by kernel_rfl) (by rfl) ?_ H ?_
 ·intro w' hSw; go_simp
 refine ch137 ?_
 refine tkH (i:=7) (v:=.slice a0 n c0) rfl (by kernel_rfl) (by rfl) ?_ H ?_
 ·intro w' hSw; have t0:=hSw.2.2.1.1.c0; clear hSw; go_simp
 refine ch137 ?_
 refine tkH (i:=8) (v:=.int .i64 (n:Int)) rfl (by kernel_rfl) (by rfl) ?_ H ?_
 ·intro w' hSw; go_simp
 refine ch137 ?_
 refine rdH (i:=9) (by kernel_rfl) rfl (fun KK hK => ?_)
 go_simp
 refine (BE.out _).mono ?_
 rintro e y1 ⟨⟨fg,fc,rfl,hf⟩,hb⟩
 replace A2:=hid (A2.out.trans (hb.mono A2.out.size))
 have FG:Hid (CelI y1 fg 2):=hf
 replace H:=PlF.below H hb
 clear hb hf BE
 refine hK.out _ _ H (fun _ => ?_)
 clear hK KK
 refine ch137 ?_
 refine tkH (i:=10) (v:=.slice (some ⟨fg,0,none⟩) (n - 2) fc) rfl (by kernel_rfl) (by rfl) ?_ H ?_
 ·intro w' hSw; go_simp
 refine ch137 ?_
 apply tg0
 rotate_left
 exact trivial
 case' q0 =>
  refine wpAnyH_done (by kernel_rfl) ?_ _
  refine NoPanic.normal ?_
  have F3:Hid (PlF y1 w.heap.size wb q n b g k a0 a1 a2 c0 c1 c2):=H
  clear H
  obtain ⟨_,_,_,_,x4,_⟩:=F3.out.2.1.cell
  go_wp2_with fail
  refine (DT.out _ F3.out.2.2.2.1).mono ?_
  rintro e v ⟨⟨dg,dc,rfl,hd⟩,hb⟩
  have FV:Hid (PlF v w.heap.size wb q n b g k a0 a1 a2 c0 c1 c2):=F3.out.below hb
  have AV:Hid (Below w.heap.size w v):=A2.out.trans (hb.mono A2.out.size)
  have GV:Hid (CelI v fg 2):=FG.out.below hb
  have DV:Hid (CelI v dg 0):=hd
  clear hd hb x4 F3 A2 FG DT
  obtain ⟨x0,_,_,_,_,_⟩:=FV.out.2.1.cell
  have n1:¬ ((n - 2:Nat):Int) < 1:=by have:=N4.out; omega
  go_wp2
  have hb:Below v.heap.size v v.drew:=(Below.refl _ _).drew
  have H:Below v.heap.size v v.drew:=hb
  refine wp_region_noPanic ?_
  refine wp_region_held_drew (S:=fun w' => Below v.heap.size v w') (by kernel_rfl) H (fun _ => ?_)
  clear hb
  generalize v.drew = z0 at *
  refine tkH (i:=0) (v:=.slice (some ⟨g,0,none⟩) 1 1) rfl (by kernel_rfl) (by rfl) ?_ H ?_
  ·intro w' hSw; go_simp
  refine ch137 ?_
  refine tkH (i:=1) (v:=.int .i64 1) rfl (by kernel_rfl) (by rfl) ?_ H ?_
  ·intro w' hSw; go_simp
  refine ch137 ?_
  refine tkH (i:=3) (v:=.slice (some ⟨g,0,none⟩) 1 1) rfl (by kernel_rfl) (by rfl) ?_ H ?_
  ·intro w' hSw; go_simp
  refine ch137 ?_
  refine tkH (i:=4) (v:=.int .i64 1) rfl (by kernel_rfl) (by rfl) ?_ H ?_
  ·intro w' hSw; go_simp
  refine ch137 ?_
  refine wpAnyH_ready (rs:=[2,5]) (by kernel_rfl) (by simp) ?_
  refine (AllReadyH.cons rfl (fun KK hK => ?_) (AllReadyH.cons rfl (fun KK hK => ?_) AllReadyH.nil))
  have hm:=mk1P z0
  have hb:Below v.heap.size v (z0.alloc (.cells #[.int .i64 0,.int .i64 0] 74)):=H.alloc H.size _
  have PB:Hid (Box2 (z0.alloc (.cells #[.int .i64 0,.int .i64 0] 74)) z0.heap.size 74 (.int .i64 0) (.int .i64 0)):=Box2.made _ _ _ _
  have PG:Hid (v.heap.size≤z0.heap.size):=H.size
  have PS:Hid (z0.heap.size < (z0.alloc (.cells #[.int .i64 0,.int .i64 0] 74)).heap.size):=by show _ < _; simp
  replace H:=hb
  clear hb
  go_simp
  clear hm
  generalize (z0.alloc (.cells #[.int .i64 0,.int .i64 0] 74)) = z1 at *
  generalize z0.heap.size = pb at *
  refine hK.out _ _ H (fun _ => ?_)
  clear hK KK
  refine ch137 ?_
  refine tkH (i:=6) (v:=.slice (some ⟨pb,0,none⟩) 1 1) rfl (by kernel_rfl) (by rfl) ?_ H ?_
  ·intro w' hSw; go_simp
  refine ch137 ?_
  apply tg8
  rotate_left
  exact trivial
  have hm:=mk1L z0
  have hb:Below v.heap.size v (z0.alloc (.cells #[.int .i64 0,.string ⟨#[]⟩] 106)):=H.alloc H.size _
  have LB:Hid (Box2 (z0.alloc (.cells #[.int .i64 0,.string ⟨#[]⟩] 106)) z0.heap.size 106 (.int .i64 0) (.string ⟨#[]⟩)):=Box2.made _ _ _ _
  have LG:Hid (v.heap.size≤z0.heap.size):=H.size
  have LS:Hid (z0.heap.size < (z0.alloc (.cells #[.int .i64 0,.string ⟨#[]⟩] 106)).heap.size):=by show _ < _; simp
  replace H:=hb
  clear hb
  go_simp
  clear hm
  generalize (z0.alloc (.cells #[.int .i64 0,.string ⟨#[]⟩] 106)) = z1 at *
  generalize z0.heap.size = lb at *
  refine hK.out _ _ H (fun _ => ?_)
  clear hK KK
  refine ch137 ?_
  apply tg9
  rotate_left
  exact trivial
  case' q9 =>
   refine rdH (i:=2) (by kernel_rfl) rfl (fun KK hK => ?_)
   have hm:=mk1P z1
   have hb:Below v.heap.size v (z1.alloc (.cells #[.int .i64 0,.int .i64 0] 74)):=H.alloc H.size _
   have PB:Hid (Box2 (z1.alloc (.cells #[.int .i64 0,.int .i64 0] 74)) z1.heap.size 74 (.int .i64 0) (.int .i64 0)):=Box2.made _ _ _ _
   have PG:Hid (v.heap.size≤z1.heap.size):=H.size
   have PN:Hid (z1.heap.size≠lb):=hid (by have:=LS.out; omega)
   replace LB:=hid (LB.out.alloc (.cells #[.int .i64 0,.int .i64 0] 74))
   have PS:Hid (z1.heap.size < (z1.alloc (.cells #[.int .i64 0,.int .i64 0] 74)).heap.size):=by show _ < _; simp
   replace H:=hb
   clear hb
   go_simp
   clear hm
   generalize (z1.alloc (.cells #[.int .i64 0,.int .i64 0] 74)) = z2 at *
   generalize z1.heap.size = pb at *
   refine hK.out _ _ H (fun _ => ?_)
   clear hK KK
   refine ch137 ?_
   refine tkH (i:=6) (v:=.slice (some ⟨pb,0,none⟩) 1 1) rfl (by kernel_rfl) (by rfl) ?_ H ?_
   ·intro w' hSw; go_simp
   refine ch137 ?_
   refine tkH (i:=7) (v:=.slice (some ⟨lb,0,none⟩) 1 1) rfl (by kernel_rfl) (by rfl) ?_ H ?_
   ·intro w' hSw; go_simp
   refine ch137 ?_
  case' q8 =>
   refine rdH (i:=5) (by kernel_rfl) rfl (fun KK hK => ?_)
   have hm:=mk1L z1
   have hb:Below v.heap.size v (z1.alloc (.cells #[.int .i64 0,.string ⟨#[]⟩] 106)):=H.alloc H.size _
   have LB:Hid (Box2 (z1.alloc (.cells #[.int .i64 0,.string ⟨#[]⟩] 106)) z1.heap.size 106 (.int .i64 0) (.string ⟨#[]⟩)):=Box2.made _ _ _ _
   have LG:Hid (v.heap.size≤z1.heap.size):=H.size
   replace PB:=hid (PB.out.alloc (.cells #[.int .i64 0,.string ⟨#[]⟩] 106))
   have PN:Hid (pb≠z1.heap.size):=hid (by have:=PS.out; omega)
   have LS:Hid (z1.heap.size < (z1.alloc (.cells #[.int .i64 0,.string ⟨#[]⟩] 106)).heap.size):=by show _ < _; simp
   replace H:=hb
   clear hb
   go_simp
   clear hm
   generalize (z1.alloc (.cells #[.int .i64 0,.string ⟨#[]⟩] 106)) = z2 at *
   generalize z1.heap.size = lb at *
   refine hK.out _ _ H (fun _ => ?_)
   clear hK KK
   refine ch137 ?_
   refine tkH (i:=7) (v:=.slice (some ⟨lb,0,none⟩) 1 1) rfl (by kernel_rfl) (by rfl) ?_ H ?_
   ·intro w' hSw; go_simp
   refine ch137 ?_
  case' q9 | q8 =>
   refine wpAnyH_done (by kernel_rfl) ?_ _
   refine NoPanic.normal ?_
   have BV:Hid (Below v.heap.size v z2):=H
   clear H PS LS
   obtain ⟨_,_,_,x3,_,x5⟩:=(FV.out.below BV.out).2.1.cell
   have hcp:=cp0P pb 3 z2
   have hcl:=cp0L lb 3 z2
   go_wp2
   clear hcp hcl x3 x5
   go_loopw [16,74] (fun s i wr => PlI v wr pb lb TK HK s i) (fun _ i _ => 1 - (intOf i).toNat)
   case atStart => exact ⟨BV.out,.inl ⟨rfl,rfl,PB.out,LB.out⟩⟩
   case round =>
    clear BV PB LB
    obtain ⟨hb,⟨rfl,rfl,pq,lq⟩ | ⟨rfl,⟨ab,ac,rfl,he⟩,pq,lq⟩⟩:=hrel
    ·have HB:Hid (Below v.heap.size v wr):=hb
     have PB:Hid (Box2 wr pb 74 (.int .i64 0) (.int .i64 0)):=pq
     have LB:Hid (Box2 wr lb 106 (.int .i64 0) (.string ⟨#[]⟩)):=lq
     have xd:=(DV.out.below hb).2
     clear hb pq lq
     go_wp2_with fail
     clear xd
     have hb:Below wr.heap.size wr wr.drew:=(Below.refl _ _).drew
     replace PB:=hid (PB.out.below hb)
     replace LB:=hid (LB.out.below hb)
     replace HB:=hid (HB.out.trans (hb.mono HB.out.size))
     clear hb
     have H:Below v.heap.size v wr.drew:=HB.out
     refine wp_region_noPanic ?_
     refine wp_region_held_drew (S:=fun w' => Below v.heap.size v w') (by kernel_rfl) H (fun _ => ?_)
     generalize wr.drew = s0 at *
     refine tkH (i:=0) (v:=.pointer (some ⟨w.heap.size,1,none⟩)) rfl (by kernel_rfl) (by rfl) ?_ H ?_
     ·intro w' hSw; go_simp
     refine ch137 ?_
     refine tkH (i:=1) (v:=.string k) rfl (by kernel_rfl) (by rfl) ?_ H ?_
     ·intro w' hSw; have t0:=(FV.out.below hSw).1.c1; clear hSw; go_simp
     refine ch137 ?_
     refine tkH (i:=2) (v:=.int .i64 0) rfl (by kernel_rfl) (by rfl) ?_ H ?_
     ·intro w' hSw; go_simp
     refine ch137 ?_
     refine tkH (i:=3) (v:=.int .i64 1) rfl (by kernel_rfl) (by rfl) ?_ H ?_
     ·intro w' hSw; go_simp
     refine ch137 ?_
     refine tkH (i:=4) (v:=.slice (some ⟨g,0,none⟩) 1 1) rfl (by kernel_rfl) (by rfl) ?_ H ?_
     ·intro w' hSw; go_simp
     refine ch137 ?_
     refine tkH (i:=5) (v:=.int .i64 0) rfl (by kernel_rfl) (by rfl) ?_ H ?_
     ·intro w' hSw; go_simp
     refine ch137 ?_
     refine tkH (i:=6) (v:=.pointer (some ⟨g,0,none⟩)) rfl (by kernel_rfl) (by rfl) ?_ H ?_
     ·intro w' hSw; go_simp
     refine ch137 ?_
     refine tkH (i:=7) (v:=.string erP) rfl (by kernel_rfl) (by rfl) ?_ H ?_
     ·intro w' hSw; have t0:=((FV.out.below hSw).2.2.2.1).cell0; clear hSw; go_simp
     refine ch137 ?_
     refine rdH (i:=8) (by kernel_rfl) rfl (fun KK hK => ?_)
     go_simp
     refine (SE.out _ (FV.out.below H).2.2.2.2).mono ?_
     rintro e s1 ⟨rfl,hb⟩
     replace PB:=hid (PB.out.below hb)
     replace LB:=hid (LB.out.below hb)
     replace H:=H.trans (hb.mono H.size)
     clear hb
     refine hK.out _ _ H (fun _ => ?_)
     clear hK KK
     refine ch137 ?_
     refine tkH (i:=9) (v:=.tuple #[.string TK,.int .i64 0]) rfl (by kernel_rfl) (by rfl) ?_ H ?_
     ·intro w' hSw; go_simp
     refine ch137 ?_
     refine tkH (i:=10) (v:=.string TK) rfl (by kernel_rfl) (by rfl) ?_ H ?_
     ·intro w' hSw; go_simp
     refine ch137 ?_
     refine tkH (i:=11) (v:=.int .i64 0) rfl (by kernel_rfl) (by rfl) ?_ H ?_
     ·intro w' hSw; go_simp
     refine ch137 ?_
     refine tkH (i:=12) (v:=.string TK) rfl (by kernel_rfl) (by rfl) ?_ H ?_
     ·intro w' hSw; go_simp
     refine ch137 ?_
     refine tkH (i:=13) (v:=.int .i64 0) rfl (by kernel_rfl) (by rfl) ?_ H ?_
     ·intro w' hSw; go_simp
     refine ch137 ?_
     apply tg16
     rotate_left
     exact trivial
     case' q16 =>
      refine wpAnyH_done (by kernel_rfl) ?_ _
      refine NoPanic.normal ?_
      have HB:Hid (Below v.heap.size v s1):=H
      clear H SE
      go_wp2_with fail
      have hb:Below s1.heap.size s1 s1.drew:=(Below.refl _ _).drew
      replace PB:=hid (PB.out.below hb)
      replace LB:=hid (LB.out.below hb)
      replace HB:=hid (HB.out.trans (hb.mono HB.out.size))
      clear hb
      have H:Below v.heap.size v s1.drew:=HB.out
      refine wp_region_noPanic ?_
      refine wp_region_held_drew (S:=fun w' => Below v.heap.size v w') (by kernel_rfl) H (fun _ => ?_)
      generalize s1.drew = t0 at *
      refine tkH (i:=0) (v:=.slice (some ⟨pb,0,none⟩) 1 1) rfl (by kernel_rfl) (by rfl) ?_ H ?_
      ·intro w' hSw; go_simp
      refine ch137 ?_
      refine tkH (i:=1) (v:=.int .i64 0) rfl (by kernel_rfl) (by rfl) ?_ H ?_
      ·intro w' hSw; go_simp
      refine ch137 ?_
      refine tkH (i:=2) (v:=.slice (some ⟨lb,0,none⟩) 1 1) rfl (by kernel_rfl) (by rfl) ?_ H ?_
      ·intro w' hSw; go_simp
      refine ch137 ?_
      refine tkH (i:=3) (v:=.int .i64 0) rfl (by kernel_rfl) (by rfl) ?_ H ?_
      ·intro w' hSw; go_simp
      refine ch137 ?_
      refine tkH (i:=4) (v:=.slice (some ⟨fg,0,none⟩) (n - 2) fc) rfl (by kernel_rfl) (by rfl) ?_ H ?_
      ·intro w' hSw; go_simp
      refine ch137 ?_
      refine tkH (i:=5) (v:=.int .i64 0) rfl (by kernel_rfl) (by rfl) ?_ H ?_
      ·intro w' hSw; go_simp
      refine ch137 ?_
      refine tkH (i:=6) (v:=.pointer (some ⟨fg,0,none⟩)) rfl (by kernel_rfl) (by rfl) ?_ H ?_
      ·intro w' hSw; have nz:¬ n - 2 = 0:=(by have:=N4.out; omega); go_simp
      refine ch137 ?_
      refine tkH (i:=7) (v:=.int .i64 2) rfl (by kernel_rfl) (by rfl) ?_ H ?_
      ·intro w' hSw; have t0:=(GV.out.below hSw).2; clear hSw; go_simp
      refine ch137 ?_
      refine tkH (i:=8) (v:=.int .i64 1) rfl (by kernel_rfl) (by rfl) ?_ H ?_
      ·intro w' hSw; go_simp
      refine ch137 ?_
      refine tkH (i:=9) (v:=.agg #[.int .i64 2,.int .i64 1]) rfl (by kernel_rfl) (by rfl) ?_ H ?_
      ·intro w' hSw; go_simp
      refine ch137 ?_
      refine tkH (i:=10) (v:=.int .i64 0) rfl (by kernel_rfl) (by rfl) ?_ H ?_
      ·intro w' hSw; go_simp
      refine ch137 ?_
      refine tkH (i:=11) (v:=.int .i64 1) rfl (by kernel_rfl) (by rfl) ?_ H ?_
      ·intro w' hSw; go_simp
      refine ch137 ?_
      refine tkH (i:=12) (v:=.string TK) rfl (by kernel_rfl) (by rfl) ?_ H ?_
      ·intro w' hSw; go_simp
      refine ch137 ?_
      refine rdH (i:=13) (by kernel_rfl) rfl (fun KK hK => ?_)
      go_simp
      refine (PL.out _ (FV.out.below H).2.2.2.2).mono ?_
      rintro e t1 ⟨rfl,hb⟩
      replace PB:=hid (PB.out.below hb)
      replace LB:=hid (LB.out.below hb)
      replace H:=H.trans (hb.mono H.size)
      clear hb
      refine hK.out _ _ H (fun _ => ?_)
      clear hK KK
      refine ch137 ?_
      refine tkH (i:=14) (v:=.pointer (some ⟨pb,0,none⟩)) rfl (by kernel_rfl) (by rfl) ?_ H ?_
      ·intro w' hSw; go_simp
      refine ch137 ?_
      apply tg24
      rotate_left
      exact trivial
      case' q24 =>
       refine rdH (i:=15) (by kernel_rfl) rfl (fun KK hK => ?_)
       have ho:OnlyB pb t1 ((t1.setCell ⟨pb,0,none⟩ (.int .i64 2)).setCell ⟨pb,1,none⟩ (.int .i64 1)):=((OnlyB.refl _ _).setCell 0 _).setCell 1 _
       have x0:=PB.out.c0
       have x1:=PB.out.c1
       have f0:=PB.out.fr 0
       have f1:=PB.out.fr 1
       have PB2:Hid (Box2 ((t1.setCell ⟨pb,0,none⟩ (.int .i64 2)).setCell ⟨pb,1,none⟩ (.int .i64 1)) pb 74 (.int .i64 2) (.int .i64 1)):=(PB.out.set0 _).set1 _
       replace LB:=hid (LB.out.onlyB ho (fun e => PN.out e.symm))
       replace H:=H.trans (ho.toBelow PG.out H.size)
       clear ho PB
       go_simp
       clear x0 x1 f0 f1
       generalize ((t1.setCell ⟨pb,0,none⟩ (.int .i64 2)).setCell ⟨pb,1,none⟩ (.int .i64 1)) = t2 at *
       refine hK.out _ _ H (fun _ => ?_)
       clear hK KK
       refine ch137 ?_
       refine tkH (i:=16) (v:=.pointer (some ⟨lb,0,none⟩)) rfl (by kernel_rfl) (by rfl) ?_ H ?_
       ·intro w' hSw; go_simp
       refine ch137 ?_
      case' q24 =>
       refine rdH (i:=17) (by kernel_rfl) rfl (fun KK hK => ?_)
       have ho:OnlyB lb t2 ((t2.setCell ⟨lb,0,none⟩ (.int .i64 1)).setCell ⟨lb,1,none⟩ (.string HK)):=((OnlyB.refl _ _).setCell 0 _).setCell 1 _
       have x0:=LB.out.c0
       have x1:=LB.out.c1
       have f0:=LB.out.fr 0
       have f1:=LB.out.fr 1
       have LB2:Hid (Box2 ((t2.setCell ⟨lb,0,none⟩ (.int .i64 1)).setCell ⟨lb,1,none⟩ (.string HK)) lb 106 (.int .i64 1) (.string HK)):=(LB.out.set0 _).set1 _
       replace PB2:=hid (PB2.out.onlyB ho PN.out)
       replace H:=H.trans (ho.toBelow LG.out H.size)
       clear ho LB
       go_simp
       clear x0 x1 f0 f1
       generalize ((t2.setCell ⟨lb,0,none⟩ (.int .i64 1)).setCell ⟨lb,1,none⟩ (.string HK)) = t3 at *
       refine hK.out _ _ H (fun _ => ?_)
       clear hK KK
       refine ch137 ?_
      case' q24 =>
       refine wpAnyH_done (by kernel_rfl) ?_ _
       refine NoPanic.normal ?_
       have HB:Hid (Below v.heap.size v t3):=H
       clear H PL
       have xf:=(GV.out.below HB.out).2
       have HX:Hid (Below v.heap.size v (t3.alloc (.cells #[.int .i64 1,.int .i64 2,.string TK,.slice none 0 0,.int .i64 0] 53))):=HB.out.alloc HB.out.size _
       obtain ⟨sa,xa,hr,he,hg,-⟩:=appActs (t3.alloc (.cells #[.int .i64 1,.int .i64 2,.string TK,.slice none 0 0,.int .i64 0] 53)) v.heap.size (.slice none 0 0) 0 (fun _ => ⟨1,2,TK,0,fun _ => false,0⟩) t3.heap.size 1 1 (fun _ => ⟨1,2,TK,0,fun _ => false,0⟩) HX.out.size (by omega) (EO.nil _ _ _ _ _) (erCells t3 TK)
       have HG:Hid (Below (t3.alloc (.cells #[.int .i64 1,.int .i64 2,.string TK,.slice none 0 0,.int .i64 0] 53)).heap.size (t3.alloc (.cells #[.int .i64 1,.int .i64 2,.string TK,.slice none 0 0,.int .i64 0] 53)) xa):=(Below.refl _ _).grown hg (Nat.le_refl _) (fun k hk => by cases hk)
       have EA:Hid (EO xa v.heap.size 53 5 sa 1 (avF (fun _ => ⟨1,2,TK,0,fun _ => false,0⟩))):=by rw [catE_zero] at he; exact he
       obtain ⟨ab,ac,rfl,-,-⟩:=EA.out.actR (by omega)
       have nz:¬ n - 2 = 0:=(by have:=N4.out; omega)
       clear hg he
       go_wp2_with (at_builtin; refine Lib.wpList_append_run _ rfl (.tmp 107) (.tmp 114) 41 41 rfl (.slice none 0 0) (.slice (some ⟨t3.heap.size,0,none⟩) 1 1) rfl rfl _ _ (hr _) ?_)
       exact ⟨⟨HX.out.trans (HG.out.mono HX.out.size),.inr ⟨rfl,⟨ab,ac,rfl,EA.out⟩,(PB2.out.alloc _).below HG.out,(LB2.out.alloc _).below HG.out⟩⟩,by simp [intOf]⟩
    ·have HB:Hid (Below v.heap.size v wr):=hb
     have EA:Hid (EO wr v.heap.size 53 5 (.slice (some ⟨ab,0,none⟩) 1 ac) 1 (avF (fun _ => ⟨1,2,TK,0,fun _ => false,0⟩))):=he
     have PB:Hid (Box2 wr pb 74 (.int .i64 2) (.int .i64 1)):=pq
     have LB:Hid (Box2 wr lb 106 (.int .i64 1) (.string HK)):=lq
     clear hb he pq lq SE PL
     go_wp2_with fail
     refine (RO.out lb wr LB.out (FV.out.below HB.out).2.2.2.2).mono ?_
     rintro e r1 ⟨rfl,hb⟩
     replace HB:=hid (HB.out.trans (hb.mono HB.out.size))
     replace EA:=hid (EA.out.below hb)
     replace PB:=hid (PB.out.below hb)
     clear hb LB RO
     go_wp2_with fail
     refine (SB.out pb r1 PB.out).mono ?_
     rintro e r2 ⟨⟨sg,sc,rfl,hcv⟩,hb⟩
     replace HB:=hid (HB.out.trans (hb.mono HB.out.size))
     replace EA:=hid (EA.out.below hb)
     have xk:=(FV.out.below HB.out).1.c1
     clear hb PB SB
     go_wp2_with fail
     refine (SA.out r2 (FV.out.below HB.out).2.2.2.2).mono ?_
     rintro e r3 ⟨⟨x,rfl,-,hpl⟩,hb⟩
     replace HB:=hid (HB.out.trans (hb.mono HB.out.size))
     replace EA:=hid (EA.out.below hb)
     obtain ⟨sa,xa,hr,he,hg,-⟩:=appActs r3 v.heap.size (.slice (some ⟨ab,0,none⟩) 1 ac) 1 (fun _ => ⟨1,2,TK,0,fun _ => false,0⟩) x 3 3 (fun i => if i = 1 then ⟨1,1,PT,0,fun _ => false,0⟩ else ⟨2,0,⟨#[]⟩,0,fun _ => false,0⟩) HB.out.size (by omega) EA.out (planCells hpl)
     obtain ⟨rb,rc,rfl,hrb,hac⟩:=he.actR (by omega)
     have HG:Hid (Below v.heap.size v xa):=HB.out.trans (grownB (EA.out.ge ab rfl).1 HB.out.size hg)
     have HA:Hid (ActR xa rb 4 AK):=⟨hac.1,fun i hi => by rw [AC.out i hi]; exact hac.2 i hi⟩
     have RB:Hid (w.heap.size≤rb):=Nat.le_trans AV.out.size hrb
     clear he hg hac hrb hpl hb xk hcv SA EA HB
     go_wp2_with (at_builtin; refine Lib.wpList_append_run _ rfl (.tmp 127) (.tmp 134) 41 41 rfl (.slice (some ⟨ab,0,none⟩) 1 ac) (.slice (some ⟨x,0,none⟩) 3 3) rfl rfl _ _ (hr _) ?_)
     exact bodyPost_ret (results_tmp3 Tryz.results44 _ _ _) rfl ⟨⟨rb,rc,rfl,RB.out,HA.out⟩,AV.out.trans (HG.out.mono AV.out.size)⟩
set_option maxRecDepth 100000 in
set_option maxHeartbeats 4000000 in
theorem syncPlan_new (k:ByteArray) (n:Nat) (hk:k.size = 32) (h4:4≤n) (hn:n≤64) (a0 a1 a2:Option Addr) (c0 c1 c2:Nat) (p0 p1:Addr) (w:World) (h:DiskV w (newD n) a0 a1 a2) (hE0:ErrAt w 4 p0) (hE1:ErrAt w 5 p1) (ht:Tabs w) :
  Calls Tryz.prog 24 #[.string k,.agg #[.slice a0 n c0,.slice a1 0 c1,.slice a2 0 c2],.slice none 0 0] w fun e w' => RetPl w.heap.size k e w'∧Below w.heap.size w w':=by
 have A0:Hid (Below w.heap.size w (w.alloc (.cells #[.slice a0 n c0,.slice a1 0 c1,.slice a2 0 c2] 25))):=(Below.refl _ _).alloc (Nat.le_refl _) _
 have X0:Hid (Box3 (w.alloc (.cells #[.slice a0 n c0,.slice a1 0 c1,.slice a2 0 c2] 25)) w.heap.size 25 (.slice a0 n c0) (.slice a1 0 c1) (.slice a2 0 c2)):=Box3.made _ _ _ _ _
 have D0:Hid (DiskV (w.alloc (.cells #[.slice a0 n c0,.slice a1 0 c1,.slice a2 0 c2] 25)) (newD n) a0 a1 a2):=h.below A0.out
 have T0:Hid (Tabs (w.alloc (.cells #[.slice a0 n c0,.slice a1 0 c1,.slice a2 0 c2] 25))):=ht.below A0.out
 have VF:Hid (Calls Tryz.prog 41 #[.string k,.agg #[.slice a0 n c0,.slice a1 0 c1,.slice a2 0 c2]] (w.alloc (.cells #[.slice a0 n c0,.slice a1 0 c1,.slice a2 0 c2] 25)) fun e w' => e = .returned (.int .i64 0)∧Below (w.alloc (.cells #[.slice a0 n c0,.slice a1 0 c1,.slice a2 0 c2] 25)).heap.size (w.alloc (.cells #[.slice a0 n c0,.slice a1 0 c1,.slice a2 0 c2] 25)) w'):=volFault_new k n hk h4 hn a0 a1 a2 c0 c1 c2 p0 p1 _ D0.out (hE0.below A0.out) (hE1.below A0.out)
 have FB:Hid (∀ w:World,Calls Tryz.prog 42 #[.slice none 0 0] w fun e w' => e = .returned (.tuple #[.slice (some ⟨w.heap.size,0,none⟩) 1 1,.int .i64 0])∧w' = w.alloc (.cells #[.int .u8 0] 5)):=filesBytes_none
 have CI:Hid (∀ (b:Nat) (w:World),Code8 w (some ⟨b,0,none⟩) 1 (fun _ => 0)→Calls Tryz.prog 43 #[.slice (some ⟨b,0,none⟩) 1 1] w fun e w' => (e = .returned (.tuple #[.slice (some ⟨w.heap.size,0,none⟩) 1 1,.int .i64 0])∧Strs w' (some ⟨w.heap.size,0,none⟩) 1 erF)∧Below w.heap.size w w'):=fun b w h => (implCut_ok b 0 1 1 (fun _ => 0) (by omega) (Nat.le_refl _) w h).mono (by
  rintro e w' ⟨⟨he,hr⟩,hb⟩
  refine ⟨⟨he,fun i hi => ⟨w.heap.size,0,rfl,?_⟩⟩,hb⟩
  obtain rfl:i = 0:=by omega
  exact World.rowIs.cell hr (i:=0) (by rw [er_pcs]; omega))
 have OD:Hid (∀ w:World,DiskV w (newD n) a0 a1 a2→Calls Tryz.prog 25 #[.string k,.agg #[.slice a0 n c0,.slice a1 0 c1,.slice a2 0 c2]] w fun e w' => (∃ q b,e = .returned (.agg #[.pointer (some ⟨q,0,none⟩),.string k])∧NwD w' n q b a0 a1 a2 c0 c1 c2)∧Below w.heap.size w w'):=fun w h => (onDisk_new k n a0 a1 a2 c0 c1 c2 w h).mono (by
  rintro e w' ⟨⟨q,b,he,h4,hm⟩,hb⟩
  exact ⟨⟨q,b,he,h4,hm,h.1.below hb⟩,hb⟩)
 have PN:Hid (∀ (q b g:Nat) (w:World),NwD w n q b a0 a1 a2 c0 c1 c2→Strs w (some ⟨g,0,none⟩) 1 erF→Tabs w→Calls Tryz.prog 44 #[.agg #[.pointer (some ⟨q,0,none⟩),.string k],.int .i64 1,.slice (some ⟨g,0,none⟩) 1 1] w fun e w' => RetPl w.heap.size k e w'∧Below w.heap.size w w'):=fun q b g w h hp ht => plan_new k n q b g hk hn h4 a0 a1 a2 c0 c1 c2 w h hp ht
 clear h hE0 hE1 hk h4 hn ht
 go_enter Tryz.func24,Tryz.ntmps24
 have y0:=X0.out.c0
 have y1:=X0.out.c1
 have y2:=X0.out.c2
 go_wp2_with fail
 refine VF.out.mono ?_
 generalize (w.alloc (.cells #[.slice a0 n c0,.slice a1 0 c1,.slice a2 0 c2] 25)) = u at *
 rintro e v ⟨rfl,hb⟩
 have X1:Hid (Box3 v w.heap.size 25 (.slice a0 n c0) (.slice a1 0 c1) (.slice a2 0 c2)):=X0.out.below hb
 have A1:Hid (Below w.heap.size w v):=A0.out.trans (hb.mono A0.out.size)
 have D1:=hid (D0.out.below hb)
 have T1:=hid (T0.out.below hb)
 clear hb A0 X0 D0 T0 VF y0 y1 y2 u
 go_wp2_with fail
 refine (FB.out v).mono ?_
 rintro e v2 ⟨rfl,hv⟩
 have hb:Below v.heap.size v v2:=by rw [hv]; exact (Below.refl _ _).alloc (Nat.le_refl _) _
 have C2:Hid (Code8 v2 (some ⟨v.heap.size,0,none⟩) 1 (fun _ => 0)):=by rw [hv]; exact code0 v
 replace X1:=hid (X1.out.below hb)
 replace A1:=hid (A1.out.trans (hb.mono A1.out.size))
 replace D1:=hid (D1.out.below hb)
 replace T1:=hid (T1.out.below hb)
 clear hb hv FB
 generalize v.heap.size = gb at *
 go_wp2_with fail
 refine (CI.out _ v2 C2.out).mono ?_
 rintro e v3 ⟨⟨rfl,hs⟩,hb⟩
 replace X1:=hid (X1.out.below hb)
 replace A1:=hid (A1.out.trans (hb.mono A1.out.size))
 replace D1:=hid (D1.out.below hb)
 replace T1:=hid (T1.out.below hb)
 have S3:Hid (Strs v3 (some ⟨v2.heap.size,0,none⟩) 1 erF):=hs
 clear hb hs C2 CI
 generalize v2.heap.size = gs at *
 have y0:=X1.out.c0
 have y1:=X1.out.c1
 have y2:=X1.out.c2
 go_wp2_with fail
 refine (OD.out v3 D1.out).mono ?_
 rintro e v4 ⟨⟨q,b,rfl,hw⟩,hb⟩
 replace A1:=hid (A1.out.trans (hb.mono A1.out.size))
 replace S3:=hid (S3.out.below hb)
 replace T1:=hid (T1.out.below hb)
 have N4:Hid (NwD v4 n q b a0 a1 a2 c0 c1 c2):=hw
 clear hb hw X1 D1 OD y0 y1 y2
 go_wp2_with fail
 refine (PN.out q b gs v4 N4.out S3.out T1.out).mono ?_
 rintro e v5 ⟨⟨x,c,rfl,hx,ha⟩,hb⟩
 have HX:Hid (w.heap.size≤x∧ActR v5 x 4 (erAC k)):=⟨Nat.le_trans A1.out.size hx,ha⟩
 replace A1:=hid (A1.out.trans (hb.mono A1.out.size))
 clear hb hx ha N4 S3 T1 PN
 go_wp2
 exact bodyPost_ret (results_tmp3 Tryz.results24 _ _ _) rfl ⟨⟨x,c,rfl,HX.out.1,HX.out.2⟩,A1.out⟩
end Go.Proofs.YtcpjeopnhgoonaaGreatDoor
