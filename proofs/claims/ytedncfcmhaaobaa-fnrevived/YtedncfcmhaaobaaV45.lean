/-
  Texts of the proof, joined: QuRb.
-/
import Derived.Test.YtedncfcmhaaobaaV29
import Derived.Test.YtedncfcmhaaobaaV20
import Derived.Deep.Cut
namespace Go.Proofs.Ytedncfcmhaaobaa
open Go.ChangeShapes Go.WideShapes Go.ChangeAt Go.RowKit
set_option linter.unusedVariables false
def RetV (N : Nat → Prop) (B b : Nat) (s : Sv) (a : Qa) (e : Ending) (w' : World) : Prop := ∃ s', ActS s a s' 0 ∧ e = .returned (.tuple #[]) ∧ SvX N w' B b s'
theorem retV_one {N : Nat → Prop} {w : World} {B b : Nat} {s : Sv} {a : Qa} {k : Nat} {z : Bool} (hk : k < s.n) (hA : a.k = 6 ∧ a.r = k ∧ z = sB (a.n = 1)) (hm : ¬ (0 < s.m ∧ (s.W (s.m - 1)).en = -1)) (h : SvX N w B b { s with R := updE s.R k ((s.R k).boot z) }) : RetV N B b s a (.returned (.tuple #[])) w := by
 rw [hA.2.2] at h
 exact ⟨_, .restart k hk hA.2.1 hA.1 hm, rfl, h⟩
theorem retV_two {N : Nat → Prop} {w : World} {B b : Nat} {s : Sv} {a : Qa} {k p : Nat} {z : Bool} {x : Wo} (hp : p = s.m - 1) (hm : p < s.m) (hk : k < s.n) (hA : a.k = 6 ∧ a.r = k ∧ z = sB (a.n = 1)) (he : (s.W p).en = -1) (hx : x = (s.W p).lose k) (h : SvX N w B b { s with R := updE s.R k ((s.R k).boot z), W := updE s.W p x }) : RetV N B b s a (.returned (.tuple #[])) w := by
 subst hp
 subst hx
 rw [hA.2.2] at h
 exact ⟨_, .restartW k hk hA.2.1 hA.1 (by omega) he, rfl, h⟩
theorem RkR.reset {w : World} {B g c n : Nat} {R : Nat → Rp} {V : Nat → Value} {k : Nat} {r : Rp} {v : Value} (h : RkR w B g c n R V k r v) (hk : k < n) (x y : Int) : RkR ((((w.setCell ⟨g, k * 8, none⟩ (.bool true)).setCell ⟨g, k * 8 + 5, none⟩ (.slice none 0 0)).setCell ⟨g, k * 8 + 6, none⟩ (.int .i64 x)).setCell ⟨g, k * 8 + 7, none⟩ (.int .i64 y)) B g c n R V k { r with mute := true, ne := 0, bc := x, bt := y } (.slice none 0 0) :=
 ((h.setM hk true).setE hk (.slice none 0 0) 0 r.E).best hk x y
set_option maxRecDepth 100000 in
set_option maxHeartbeats 4000000 in
theorem restart_v {N : Nat → Prop} (B b : Nat) (s : Sv) (a : Qa) (k : Nat) (back : Bool) (hk : k < s.n) (ha : a.k = 6) (hr : a.r = k) (hz : back = sB (a.n = 1)) (ok : s.Ok) (w : World) (hB : B ≤ w.heap.size) (h : SvX N w B b s) :
  Calls Try.prog 87 #[.pointer (some ⟨b, 0, none⟩), .int .i64 (k : Int), .bool back] w fun e w' => RetV N B b s a e w' ∧ Blw N B w w' := by
 obtain ⟨vr, vw, vq, VR, VW, VQ, P⟩ := h.p
 clear h
 have b0 := P.x.lt
 obtain ⟨ra, rc, rfl⟩ := P.o.r.form
 obtain ⟨wa, wc, rfl⟩ := P.o.x.form
 have klt : (k : Int) < (s.n : Int) := by omega
 have hb : Below w.heap.size w (w.alloc (.cells #[.int .i64 (k : Int)] 3)) := (Below.refl _ _).alloc (Nat.le_refl _) _
 obtain ⟨gr, rfl, gB, gl, KR⟩ := RkR.start P.o.r hk
 have PV : Hid (SvP N (w.alloc (.cells #[.int .i64 (k : Int)] 3)) B b s (.slice (some ⟨gr, 0, none⟩) s.n rc) (.slice wa s.m wc) vq VR VW VQ) := P.below hb
 have KRH : Hid (RkR (w.alloc (.cells #[.int .i64 (k : Int)] 3)) B gr rc s.n s.R VR k (s.R k) (VR k)) := KR.below hb
 have XK : Hid (BoxN (w.alloc (.cells #[.int .i64 (k : Int)] 3)) w.heap.size (k : Int)) := BoxN.made w _
 have BV : Hid (B ≤ (w.alloc (.cells #[.int .i64 (k : Int)] 3)).heap.size ∧ Blw N B w (w.alloc (.cells #[.int .i64 (k : Int)] 3))) := ⟨Nat.le_trans hB hb.size, blw_of hb hB⟩
 have SZ : Hid (w.heap.size < (w.alloc (.cells #[.int .i64 (k : Int)] 3)).heap.size) := by show _ < _; simp
 have HA : Hid (a.k = 6 ∧ a.r = k ∧ back = sB (a.n = 1)) := ⟨ha, hr, hz⟩
 have OK : Hid s.Ok := ok
 have NK : Hid (∀ q i, (q < s.n ∧ (VR q).ownBlock = some i) ∨ (q < s.m ∧ (VW q).ownBlock = some i) → w.heap.size ≠ i) := fun q i z e => by
  rcases z with ⟨h1, h2⟩ | ⟨h1, h2⟩
  ·have := (EO.ge (P.o.e q h1) i h2).2; omega
  ·have := (EO.ge (P.o.a q h1) i h2).2; omega
 have NG : Hid (gr ≠ w.heap.size ∧ b ≠ w.heap.size) := ⟨by omega, by omega⟩
 clear P KR hb ok ha hr hz
 go_enter Try.func87, Try.ntmps87
 go_upto_region 1 with fail
 generalize (w.alloc (.cells #[.int .i64 (k : Int)] 3)) = v at *
 obtain ⟨kb, hkb⟩ : ∃ x, x = w.heap.size := ⟨_, rfl⟩
 have HKB : Hid (kb = w.heap.size) := hkb
 rw [← hkb] at XK SZ NK NG ⊢
 clear hkb
 have c0 := PV.out.x.c0
 have x0 := XK.out.c0
 go_quiet (fail)
 clear c0 x0
 generalize hv : v.drewN nq = v1 at *
 have hb : Below v.heap.size v v1 := hv ▸ below_dN v nq
 clear hv
 replace PV : Hid (SvP N v1 B b s (.slice (some ⟨gr, 0, none⟩) s.n rc) (.slice wa s.m wc) vq VR VW VQ) := PV.out.below hb
 replace KRH : Hid (RkR v1 B gr rc s.n s.R VR k (s.R k) (VR k)) := KRH.out.below hb
 replace XK : Hid (BoxN v1 kb (k : Int)) := World.rowIs.of_block XK.out (hb.block kb SZ.out)
 replace SZ : Hid (kb < v1.heap.size) := Nat.lt_of_lt_of_le SZ.out hb.size
 replace BV : Hid (B ≤ v1.heap.size ∧ Blw N B w v1) := ⟨Nat.le_trans BV.out.1 hb.size, BV.out.2.trans (blw_of hb BV.out.1)⟩
 clear hb v
 cases back with
 | true =>
  have t1 : v1.cell? ⟨gr, k * 8 + 1, none⟩ = some (.int .i64 (s.R k).nc) := KRH.out.c hk 1 (by omega)
  have t2 : v1.cell? ⟨gr, k * 8 + 2, none⟩ = some (.int .i64 (s.R k).nt) := KRH.out.c hk 2 (by omega)
  have t3 : v1.cell? ⟨gr, k * 8 + 3, none⟩ = some (.int .i64 (s.R k).sc) := KRH.out.c hk 3 (by omega)
  have t4 : v1.cell? ⟨gr, k * 8 + 4, none⟩ = some (.int .i64 (s.R k).st) := KRH.out.c hk 4 (by omega)
  have f1 := KRH.out.fr hk 1 (by omega)
  have f2 := KRH.out.fr hk 2 (by omega)
  have K2 : Hid (RkR ((v1.setCell ⟨gr, k * 8 + 1, none⟩ (.int .i64 (s.R k).sc)).setCell ⟨gr, k * 8 + 2, none⟩ (.int .i64 (s.R k).st)) B gr rc s.n s.R VR k { s.R k with nc := (s.R k).sc, nt := (s.R k).st } (VR k)) := KRH.out.now hk _ _
  have H2 : Hid (ChB (PR (.slice (some ⟨gr, 0, none⟩) s.n rc) VR k) v1 ((v1.setCell ⟨gr, k * 8 + 1, none⟩ (.int .i64 (s.R k).sc)).setCell ⟨gr, k * 8 + 2, none⟩ (.int .i64 (s.R k).st))) := ((ChB.refl _ _).at gr (.inl (.inl rfl)) _ _).at gr (.inl (.inl rfl)) _ _
  go_upto_region 4 with fail
  generalize ((v1.setCell ⟨gr, k * 8 + 1, none⟩ (.int .i64 (s.R k).sc)).setCell ⟨gr, k * 8 + 2, none⟩ (.int .i64 (s.R k).st)) = v2 at *
  clear t1 t2 t3 t4 f1 f2
  have t0 : v2.cell? ⟨gr, k * 8, none⟩ = some (.bool (s.R k).mute) := K2.out.c hk 0 (by omega)
  have t1 : v2.cell? ⟨gr, k * 8 + 1, none⟩ = some (.int .i64 (s.R k).sc) := K2.out.c hk 1 (by omega)
  have t2 : v2.cell? ⟨gr, k * 8 + 2, none⟩ = some (.int .i64 (s.R k).st) := K2.out.c hk 2 (by omega)
  have t5 : v2.cell? ⟨gr, k * 8 + 5, none⟩ = some (VR k) := K2.out.c hk 5 (by omega)
  have t6 : v2.cell? ⟨gr, k * 8 + 6, none⟩ = some (.int .i64 (s.R k).bc) := K2.out.c hk 6 (by omega)
  have t7 : v2.cell? ⟨gr, k * 8 + 7, none⟩ = some (.int .i64 (s.R k).bt) := K2.out.c hk 7 (by omega)
  have f0 : v2.frozen? ⟨gr, k * 8, none⟩ = false := K2.out.fr hk 0 (by omega)
  have f5 := K2.out.fr hk 5 (by omega)
  have f6 := K2.out.fr hk 6 (by omega)
  have f7 := K2.out.fr hk 7 (by omega)
  have K3 : Hid (RkR ((((v2.setCell ⟨gr, k * 8, none⟩ (.bool true)).setCell ⟨gr, k * 8 + 5, none⟩ (.slice none 0 0)).setCell ⟨gr, k * 8 + 6, none⟩ (.int .i64 (s.R k).sc)).setCell ⟨gr, k * 8 + 7, none⟩ (.int .i64 (s.R k).st)) B gr rc s.n s.R VR k ((s.R k).boot true) (.slice none 0 0)) := K2.out.reset hk (s.R k).sc (s.R k).st
  have H3 : Hid (ChB (PR (.slice (some ⟨gr, 0, none⟩) s.n rc) VR k) v1 ((((v2.setCell ⟨gr, k * 8, none⟩ (.bool true)).setCell ⟨gr, k * 8 + 5, none⟩ (.slice none 0 0)).setCell ⟨gr, k * 8 + 6, none⟩ (.int .i64 (s.R k).sc)).setCell ⟨gr, k * 8 + 7, none⟩ (.int .i64 (s.R k).st))) := (((H2.out.at gr (.inl (.inl rfl)) _ _).at gr (.inl (.inl rfl)) _ _).at gr (.inl (.inl rfl)) _ _).at gr (.inl (.inl rfl)) _ _
  clear K2 H2
  go_upto_region 5 with fail
  generalize ((((v2.setCell ⟨gr, k * 8, none⟩ (.bool true)).setCell ⟨gr, k * 8 + 5, none⟩ (.slice none 0 0)).setCell ⟨gr, k * 8 + 6, none⟩ (.int .i64 (s.R k).sc)).setCell ⟨gr, k * 8 + 7, none⟩ (.int .i64 (s.R k).st)) = v3 at *
  clear t0 t1 t2 t5 t6 t7 f0 f5 f6 f7
  have P3 : Hid (SvP N v3 B b { s with R := updE s.R k ((s.R k).boot true) } (.slice (some ⟨gr, 0, none⟩) s.n rc) (.slice wa s.m wc) vq (updE VR k (.slice none 0 0)) VW VQ) := PV.out.chR hk H3.out K3.out (by cases hq : (s.R k).mute <;> exact EO.nil _ _ _ _ _) (fun g e => by cases e)
  have X3 : Hid (BoxN v3 kb (k : Int)) := World.rowIs.of_block XK.out (H3.out.block kb SZ.out (fun z => (show _ ∨ _ from z).elim (fun z => NG.out.1 (by cases z; rfl)) (fun z => NK.out k kb (.inl ⟨hk, z⟩) rfl)))
  have BY : Hid (B ≤ v3.heap.size ∧ Blw N B w v3) := ⟨Nat.le_trans BV.out.1 H3.out.size, BV.out.2.trans (H3.out.toBlw (PR.geR PV.out hk) BV.out.1)⟩
  clear PV KRH XK BV H3 K3 SZ
  have c2 := P3.out.x.c2
  by_cases hm : s.m = 0
  ·have Q : Hid (RetV N B b s a (.returned (.tuple #[])) v3 ∧ Blw N B w v3) := ⟨retV_one hk HA.out (by omega) P3.out.sv, BY.out.2⟩
   rw [hm] at c2
   clear P3 X3 BY OK HA NK NG hm
   go_wp2
   refine bodyPost_ret (results_none rfl _ _ _) rfl ?_
   exact Q.out
  ·obtain ⟨p, hp⟩ : ∃ p, p = s.m - 1 := ⟨_, rfl⟩
   have pm : p < s.m := by omega
   have ep : (s.m : Int) - 1 = (p : Int) := by omega
   have plt : (p : Int) < (s.m : Int) := by omega
   have m0 : ((s.m : Int) == 0) = false := by simp; omega
   have m200 : s.m ≤ 200 := OK.out.1.2.2.1
   have pw : IntKind.i64.wrap (p : Int) = (p : Int) := IntWalk.i64_in _ (by omega)
   have HP : Hid (p = s.m - 1) := hp
   obtain ⟨gw, rfl, wB, wl, KW⟩ := RkW.start P3.out.o.x pm
   have KWH : Hid (RkW v3 B gw wc s.m s.W VW p (s.W p) (VW p)) := KW
   clear KW hp
   go_wp2_with fail
   go_quiet (fail)
   clear c2
   generalize hv : v3.drewN _ = v4 at *
   have hb : Below v3.heap.size v3 v4 := hv ▸ below_dN v3 _
   clear hv
   have P4 : Hid (SvP N v4 B b { s with R := updE s.R k ((s.R k).boot true) } (.slice (some ⟨gr, 0, none⟩) s.n rc) (.slice (some ⟨gw, 0, none⟩) s.m wc) vq (updE VR k (.slice none 0 0)) VW VQ) := P3.out.below hb
   have K4 : Hid (RkW v4 B gw wc s.m s.W VW p (s.W p) (VW p)) := KWH.out.below hb
   have X4 : Hid (BoxN v4 kb (k : Int)) := World.rowIs.of_block X3.out (hb.block kb (World.rowIs.lt X3.out))
   replace BY : Hid (B ≤ v4.heap.size ∧ Blw N B w v4) := ⟨Nat.le_trans BY.out.1 hb.size, BY.out.2.trans (blw_of hb BY.out.1)⟩
   clear P3 KWH X3 hb
   have q4 : v4.cell? ⟨gw, p * 5 + 4, none⟩ = some (.int .i64 (s.W p).en) := K4.out.c pm 4 (by omega)
   by_cases he : (s.W p).en = -1
   ·have HE : Hid ((s.W p).en = -1) := he
    rw [he] at q4
    clear he
    have IW : IE v4 B (VW p) (s.W p).ne (s.W p).E := P4.out.o.a p pm
    obtain ⟨la, lcap, eV⟩ := EO.form IW
    have EV : Hid (VW p = .slice la (s.W p).ne lcap) := eV
    have DH : Hid (Calls Try.prog 108 #[.slice la (s.W p).ne lcap, .func (.func 109) #[] #[.pointer (some ⟨kb, 0, none⟩)]] v4 fun e w' => RetDl v4 B la (s.W p).ne lcap (s.W p).E k e w') := dropI_any s.n B la (s.W p).ne lcap (s.W p).E k kb (OK.out.2.1 p pm).2.2.2.1 (by have := ids_le (OK.out.2.1 p pm).2.2.2.1; have := OK.out.1.1.2; omega) v4 X4.out.c0 (fun g e => NK.out p g (.inr ⟨pm, by rw [eV]; exact e⟩)) (by rw [← eV]; exact IW)
    have q2 : v4.cell? ⟨gw, p * 5 + 2, none⟩ = some (.slice la (s.W p).ne lcap) := by have := K4.out.c pm 2 (by omega); rw [← eV]; exact this
    clear IW eV X4
    go_wp2_with fail
    refine DH.out.mono ?_
    rintro e v5 ⟨⟨rfl, hI⟩, hg⟩
    rw [← EV.out] at hg
    have gne : ∀ u, (VW p).ownBlock = some u → u ≠ gw := fun u e z => EO.apart (P4.out.o.a p pm) P4.out.o.x (by decide) u e (by rw [z]; rfl)
    have H5 : ChB (PR (.slice (some ⟨gw, 0, none⟩) s.m wc) VW p) v4 v5 := (ChB.refl _ _).grown hg (fun g e => .inl (.inr e))
    have K5 : Hid (RkW v5 B gw wc s.m s.W VW p (s.W p) (VW p)) := K4.out.keep (hg.block gw K4.out.lt.2 (fun e => gne gw e.symm rfl))
    have f2 := K5.out.fr pm 2 (by omega)
    have g2 : v5.cell? ⟨gw, p * 5 + 2, none⟩ = some (VW p) := K5.out.c pm 2 (by omega)
    have K6 := K5.out.setE pm (.slice la (subE (s.W p).ne (s.W p).E k).1 lcap) (subE (s.W p).ne (s.W p).E k).1 (subE (s.W p).ne (s.W p).E k).2
    have I6 := IE.setOther hI K5.out (by decide) (p * 5 + 2) (.slice la (subE (s.W p).ne (s.W p).E k).1 lcap)
    have H6 := H5.at gw (.inl (.inl rfl)) (p * 5 + 2) (.slice la (subE (s.W p).ne (s.W p).E k).1 lcap)
    have Q : Hid (RetV N B b s a (.returned (.tuple #[])) (v5.setCell ⟨gw, p * 5 + 2, none⟩ (.slice la (subE (s.W p).ne (s.W p).E k).1 lcap)) ∧ Blw N B w (v5.setCell ⟨gw, p * 5 + 2, none⟩ (.slice la (subE (s.W p).ne (s.W p).E k).1 lcap))) := ⟨retV_two HP.out pm hk HA.out HE.out rfl (P4.out.chW pm H6 K6 I6 (fun g e => .inl (by rw [EV.out]; cases la <;> exact e))).sv, BY.out.2.trans (H6.toBlw (PR.geW P4.out pm) BY.out.1)⟩
    clear K6 I6 H6 hI hg gne H5 K5 K4 P4 DH q2 q4 BY EV NK
    generalize (subE (s.W p).ne (s.W p).E k).1 = ne' at *
    go_wp2
    go_end0
    exact Q.out
   ·have heb : ((s.W p).en == -1) = false := by simp; exact he
    have Q : Hid (RetV N B b s a (.returned (.tuple #[])) v4 ∧ Blw N B w v4) := ⟨retV_one hk HA.out (fun z => he (by rw [HP.out]; exact z.2)) P4.out.sv, BY.out.2⟩
    clear P4 K4 X4 BY OK HA NK NG he
    go_wp2
    go_end0
    exact Q.out
 | false =>
  have K2 : Hid (RkR v1 B gr rc s.n s.R VR k (s.R k) (VR k)) := KRH.out
  have H2 : Hid (ChB (PR (.slice (some ⟨gr, 0, none⟩) s.n rc) VR k) v1 v1) := ChB.refl _ _
  go_upto_region 4 with fail
  have t0 : v1.cell? ⟨gr, k * 8, none⟩ = some (.bool (s.R k).mute) := K2.out.c hk 0 (by omega)
  have t1 : v1.cell? ⟨gr, k * 8 + 1, none⟩ = some (.int .i64 (s.R k).nc) := K2.out.c hk 1 (by omega)
  have t2 : v1.cell? ⟨gr, k * 8 + 2, none⟩ = some (.int .i64 (s.R k).nt) := K2.out.c hk 2 (by omega)
  have t5 : v1.cell? ⟨gr, k * 8 + 5, none⟩ = some (VR k) := K2.out.c hk 5 (by omega)
  have t6 : v1.cell? ⟨gr, k * 8 + 6, none⟩ = some (.int .i64 (s.R k).bc) := K2.out.c hk 6 (by omega)
  have t7 : v1.cell? ⟨gr, k * 8 + 7, none⟩ = some (.int .i64 (s.R k).bt) := K2.out.c hk 7 (by omega)
  have f0 : v1.frozen? ⟨gr, k * 8, none⟩ = false := K2.out.fr hk 0 (by omega)
  have f5 := K2.out.fr hk 5 (by omega)
  have f6 := K2.out.fr hk 6 (by omega)
  have f7 := K2.out.fr hk 7 (by omega)
  have K3 : Hid (RkR ((((v1.setCell ⟨gr, k * 8, none⟩ (.bool true)).setCell ⟨gr, k * 8 + 5, none⟩ (.slice none 0 0)).setCell ⟨gr, k * 8 + 6, none⟩ (.int .i64 (s.R k).nc)).setCell ⟨gr, k * 8 + 7, none⟩ (.int .i64 (s.R k).nt)) B gr rc s.n s.R VR k ((s.R k).boot false) (.slice none 0 0)) := K2.out.reset hk (s.R k).nc (s.R k).nt
  have H3 : Hid (ChB (PR (.slice (some ⟨gr, 0, none⟩) s.n rc) VR k) v1 ((((v1.setCell ⟨gr, k * 8, none⟩ (.bool true)).setCell ⟨gr, k * 8 + 5, none⟩ (.slice none 0 0)).setCell ⟨gr, k * 8 + 6, none⟩ (.int .i64 (s.R k).nc)).setCell ⟨gr, k * 8 + 7, none⟩ (.int .i64 (s.R k).nt))) := (((H2.out.at gr (.inl (.inl rfl)) _ _).at gr (.inl (.inl rfl)) _ _).at gr (.inl (.inl rfl)) _ _).at gr (.inl (.inl rfl)) _ _
  clear K2 H2
  go_upto_region 5 with fail
  generalize ((((v1.setCell ⟨gr, k * 8, none⟩ (.bool true)).setCell ⟨gr, k * 8 + 5, none⟩ (.slice none 0 0)).setCell ⟨gr, k * 8 + 6, none⟩ (.int .i64 (s.R k).nc)).setCell ⟨gr, k * 8 + 7, none⟩ (.int .i64 (s.R k).nt)) = v3 at *
  clear t0 t1 t2 t5 t6 t7 f0 f5 f6 f7
  have P3 : Hid (SvP N v3 B b { s with R := updE s.R k ((s.R k).boot false) } (.slice (some ⟨gr, 0, none⟩) s.n rc) (.slice wa s.m wc) vq (updE VR k (.slice none 0 0)) VW VQ) := PV.out.chR hk H3.out K3.out (by cases hq : (s.R k).mute <;> exact EO.nil _ _ _ _ _) (fun g e => by cases e)
  have X3 : Hid (BoxN v3 kb (k : Int)) := World.rowIs.of_block XK.out (H3.out.block kb SZ.out (fun z => (show _ ∨ _ from z).elim (fun z => NG.out.1 (by cases z; rfl)) (fun z => NK.out k kb (.inl ⟨hk, z⟩) rfl)))
  have BY : Hid (B ≤ v3.heap.size ∧ Blw N B w v3) := ⟨Nat.le_trans BV.out.1 H3.out.size, BV.out.2.trans (H3.out.toBlw (PR.geR PV.out hk) BV.out.1)⟩
  clear PV KRH XK BV H3 K3 SZ
  have c2 := P3.out.x.c2
  by_cases hm : s.m = 0
  ·have Q : Hid (RetV N B b s a (.returned (.tuple #[])) v3 ∧ Blw N B w v3) := ⟨retV_one hk HA.out (by omega) P3.out.sv, BY.out.2⟩
   rw [hm] at c2
   clear P3 X3 BY OK HA NK NG hm
   go_wp2
   refine bodyPost_ret (results_none rfl _ _ _) rfl ?_
   exact Q.out
  ·obtain ⟨p, hp⟩ : ∃ p, p = s.m - 1 := ⟨_, rfl⟩
   have pm : p < s.m := by omega
   have ep : (s.m : Int) - 1 = (p : Int) := by omega
   have plt : (p : Int) < (s.m : Int) := by omega
   have m0 : ((s.m : Int) == 0) = false := by simp; omega
   have m200 : s.m ≤ 200 := OK.out.1.2.2.1
   have pw : IntKind.i64.wrap (p : Int) = (p : Int) := IntWalk.i64_in _ (by omega)
   have HP : Hid (p = s.m - 1) := hp
   obtain ⟨gw, rfl, wB, wl, KW⟩ := RkW.start P3.out.o.x pm
   have KWH : Hid (RkW v3 B gw wc s.m s.W VW p (s.W p) (VW p)) := KW
   clear KW hp
   go_wp2_with fail
   go_quiet (fail)
   clear c2
   generalize hv : v3.drewN _ = v4 at *
   have hb : Below v3.heap.size v3 v4 := hv ▸ below_dN v3 _
   clear hv
   have P4 : Hid (SvP N v4 B b { s with R := updE s.R k ((s.R k).boot false) } (.slice (some ⟨gr, 0, none⟩) s.n rc) (.slice (some ⟨gw, 0, none⟩) s.m wc) vq (updE VR k (.slice none 0 0)) VW VQ) := P3.out.below hb
   have K4 : Hid (RkW v4 B gw wc s.m s.W VW p (s.W p) (VW p)) := KWH.out.below hb
   have X4 : Hid (BoxN v4 kb (k : Int)) := World.rowIs.of_block X3.out (hb.block kb (World.rowIs.lt X3.out))
   replace BY : Hid (B ≤ v4.heap.size ∧ Blw N B w v4) := ⟨Nat.le_trans BY.out.1 hb.size, BY.out.2.trans (blw_of hb BY.out.1)⟩
   clear P3 KWH X3 hb
   have q4 : v4.cell? ⟨gw, p * 5 + 4, none⟩ = some (.int .i64 (s.W p).en) := K4.out.c pm 4 (by omega)
   by_cases he : (s.W p).en = -1
   ·have HE : Hid ((s.W p).en = -1) := he
    rw [he] at q4
    clear he
    have IW : IE v4 B (VW p) (s.W p).ne (s.W p).E := P4.out.o.a p pm
    obtain ⟨la, lcap, eV⟩ := EO.form IW
    have EV : Hid (VW p = .slice la (s.W p).ne lcap) := eV
    have DH : Hid (Calls Try.prog 108 #[.slice la (s.W p).ne lcap, .func (.func 109) #[] #[.pointer (some ⟨kb, 0, none⟩)]] v4 fun e w' => RetDl v4 B la (s.W p).ne lcap (s.W p).E k e w') := dropI_any s.n B la (s.W p).ne lcap (s.W p).E k kb (OK.out.2.1 p pm).2.2.2.1 (by have := ids_le (OK.out.2.1 p pm).2.2.2.1; have := OK.out.1.1.2; omega) v4 X4.out.c0 (fun g e => NK.out p g (.inr ⟨pm, by rw [eV]; exact e⟩)) (by rw [← eV]; exact IW)
    have q2 : v4.cell? ⟨gw, p * 5 + 2, none⟩ = some (.slice la (s.W p).ne lcap) := by have := K4.out.c pm 2 (by omega); rw [← eV]; exact this
    clear IW eV X4
    go_wp2_with fail
    refine DH.out.mono ?_
    rintro e v5 ⟨⟨rfl, hI⟩, hg⟩
    rw [← EV.out] at hg
    have gne : ∀ u, (VW p).ownBlock = some u → u ≠ gw := fun u e z => EO.apart (P4.out.o.a p pm) P4.out.o.x (by decide) u e (by rw [z]; rfl)
    have H5 : ChB (PR (.slice (some ⟨gw, 0, none⟩) s.m wc) VW p) v4 v5 := (ChB.refl _ _).grown hg (fun g e => .inl (.inr e))
    have K5 : Hid (RkW v5 B gw wc s.m s.W VW p (s.W p) (VW p)) := K4.out.keep (hg.block gw K4.out.lt.2 (fun e => gne gw e.symm rfl))
    have f2 := K5.out.fr pm 2 (by omega)
    have g2 : v5.cell? ⟨gw, p * 5 + 2, none⟩ = some (VW p) := K5.out.c pm 2 (by omega)
    have K6 := K5.out.setE pm (.slice la (subE (s.W p).ne (s.W p).E k).1 lcap) (subE (s.W p).ne (s.W p).E k).1 (subE (s.W p).ne (s.W p).E k).2
    have I6 := IE.setOther hI K5.out (by decide) (p * 5 + 2) (.slice la (subE (s.W p).ne (s.W p).E k).1 lcap)
    have H6 := H5.at gw (.inl (.inl rfl)) (p * 5 + 2) (.slice la (subE (s.W p).ne (s.W p).E k).1 lcap)
    have Q : Hid (RetV N B b s a (.returned (.tuple #[])) (v5.setCell ⟨gw, p * 5 + 2, none⟩ (.slice la (subE (s.W p).ne (s.W p).E k).1 lcap)) ∧ Blw N B w (v5.setCell ⟨gw, p * 5 + 2, none⟩ (.slice la (subE (s.W p).ne (s.W p).E k).1 lcap))) := ⟨retV_two HP.out pm hk HA.out HE.out rfl (P4.out.chW pm H6 K6 I6 (fun g e => .inl (by rw [EV.out]; cases la <;> exact e))).sv, BY.out.2.trans (H6.toBlw (PR.geW P4.out pm) BY.out.1)⟩
    clear K6 I6 H6 hI hg gne H5 K5 K4 P4 DH q2 q4 BY EV NK
    generalize (subE (s.W p).ne (s.W p).E k).1 = ne' at *
    go_wp2
    go_end0
    exact Q.out
   ·have heb : ((s.W p).en == -1) = false := by simp; exact he
    have Q : Hid (RetV N B b s a (.returned (.tuple #[])) v4 ∧ Blw N B w v4) := ⟨retV_one hk HA.out (fun z => he (by rw [HP.out]; exact z.2)) P4.out.sv, BY.out.2⟩
    clear P4 K4 X4 BY OK HA NK NG he
    go_wp2
    go_end0
    exact Q.out
end Go.Proofs.Ytedncfcmhaaobaa
