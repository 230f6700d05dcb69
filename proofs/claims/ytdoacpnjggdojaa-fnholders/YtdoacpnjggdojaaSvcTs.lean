/-
  Holders: the program's and the model's (written by tools/mksvs2.py).
-/
import Derived.Test.YtdoacpnjggdojaaSvcT
import Derived.Test.YtdoacpnjggdojaaSvcY
namespace Go.Proofs.Ytdoacpnjggdojaa
open Go.ChangeShapes Go.WideShapes Go.ChangeAt Go.RowKit
set_option linter.unusedVariables false
/-- What Holders tells. -/
def HoCase (s : Sv) (c : Int) (n : Nat) (C : Nat → Int) (code : Int) : Prop := (¬ s.Ok ∧ n = 0 ∧ code = 1) ∨ (s.Ok ∧ n ≤ 7 ∧ code = 0 ∧ HoIs s c s.n n C)
theorem HoCase.uniq {s : Sv} {c : Int} {n m : Nat} {C E : Nat → Int} {x y : Int} (h : HoCase s c n C x) (h' : HoCase s c m E y) : n = m ∧ x = y ∧ n ≤ 7 ∧ ∀ i, i < n → C i = E i := by
  rcases h with ⟨h1, rfl, rfl⟩ | ⟨h1, h2, rfl, h3⟩
  · rcases h' with ⟨_, rfl, rfl⟩ | ⟨g1, _⟩
    · exact ⟨rfl, rfl, by omega, fun i hi => absurd hi (by omega)⟩
    · exact absurd g1 h1
  · rcases h' with ⟨g1, _⟩ | ⟨_, _, rfl, g3⟩
    · exact absurd h1 g1
    · obtain ⟨rfl, e⟩ := h3.uniq g3
      exact ⟨rfl, rfl, h2, e⟩
def RetHc (s : Sv) (c : Int) (B : Nat) (e : Ending) (w : World) : Prop := ∃ (a : Option Addr) (n k : Nat) (C : Nat → Int) (code : Int), e = .returned (.tuple #[.slice a n k, .int .i64 code]) ∧ HoCase s c n C code ∧ IE w B (.slice a n k) n C
set_option maxRecDepth 100000 in
set_option maxHeartbeats 2000000 in
theorem implHo_v (s : Sv) (p : Sa) (c : Int) (hx : s.max 1048576) (w : World) (h : SvV w s p) :
    Calls Try.prog 17 #[.agg #[.slice p.a s.n p.ca, .int .i64 s.t, .slice p.b s.m p.cb, .slice p.d s.l p.cd], .int .i64 c] w fun e w' => RetHc s c w.heap.size e w' ∧ Below w.heap.size w w' := by
  have IK : Hid (∀ (r : Bool) (w : World), r = sB s.Ok → SvV w s p → Calls Try.prog 15 #[.agg #[.slice p.a s.n p.ca, .int .i64 s.t, .slice p.b s.m p.cb, .slice p.d s.l p.cd]] w fun e w' => e = .returned (.bool r) ∧ Below w.heap.size w w') := fun r w hr h => implSvOK_v s p hx r hr w h
  have TH : Hid (∀ (kb : Nat) (w : World), s.n ≤ 1000 → SvV w s p → w.cell? ⟨kb, 0, none⟩ = some (.int .i64 c) → Calls Try.prog 52 #[.agg #[.slice p.a s.n p.ca, .int .i64 s.t, .slice p.b s.m p.cb, .slice p.d s.l p.cd], .func (.func 53) #[] #[.pointer (some ⟨kb, 0, none⟩)]] w fun e w' => RetHo s c w.heap.size e w' ∧ Below w.heap.size w w') := fun kb w hn h hk => those_v s p c kb hn w h hk
  obtain ⟨pa, pb, pd, PA, PB, PD, PX, PY, PZ, ca, cb, cd⟩ := p
  dsimp only at IK TH ⊢
  have s1 : (w.alloc (.cells #[.slice pa s.n ca, .int .i64 s.t, .slice pb s.m cb, .slice pd s.l cd] 30)).heap.size = w.heap.size + 1 := by simp
  have BB : Hid (Below w.heap.size w ((w.alloc (.cells #[.slice pa s.n ca, .int .i64 s.t, .slice pb s.m cb, .slice pd s.l cd] 30)).alloc (.cells #[.int .i64 c] 3))) := ((Below.refl w.heap.size w).alloc (Nat.le_refl _) _).alloc (by rw [s1]; omega) _
  have S1 : Hid (BxF ((w.alloc (.cells #[.slice pa s.n ca, .int .i64 s.t, .slice pb s.m cb, .slice pd s.l cd] 30)).alloc (.cells #[.int .i64 c] 3)) w.heap.size 30 4 (fun i => if i = 0 then .slice pa s.n ca else if i = 1 then .int .i64 s.t else if i = 2 then .slice pb s.m cb else .slice pd s.l cd)) := (BxF.sv _ _ _ _ _).alloc _
  have K1 : Hid (((w.alloc (.cells #[.slice pa s.n ca, .int .i64 s.t, .slice pb s.m cb, .slice pd s.l cd] 30)).alloc (.cells #[.int .i64 c] 3)).cell? ⟨w.heap.size + 1, 0, none⟩ = some (.int .i64 c)) := (World.cell?_alloc_at (w := (w.alloc (.cells #[.slice pa s.n ca, .int .i64 s.t, .slice pb s.m cb, .slice pd s.l cd] 30))) #[.int .i64 c] _ (w.heap.size + 1) 0 s1.symm).trans rfl
  have HV : Hid (SvV ((w.alloc (.cells #[.slice pa s.n ca, .int .i64 s.t, .slice pb s.m cb, .slice pd s.l cd] 30)).alloc (.cells #[.int .i64 c] 3)) s ⟨pa, pb, pd, PA, PB, PD, PX, PY, PZ, ca, cb, cd⟩) := h.below BB.out
  clear h hx s1
  by_cases ok : s.Ok
  · have RB : Hid (true = sB s.Ok) := (sB_yes ok).symm
    have N7 : Hid (s.n ≤ 7) := ok.1.1.2
    have OK : Hid s.Ok := ok
    clear ok
    go_enter Try.func17, Try.ntmps17
    go_wp2_with fail
    generalize ((w.alloc (.cells #[.slice pa s.n ca, .int .i64 s.t, .slice pb s.m cb, .slice pd s.l cd] 30)).alloc (.cells #[.int .i64 c] 3)) = v0 at *
    obtain ⟨kb, hkb⟩ : ∃ x, x = w.heap.size + 1 := ⟨_, rfl⟩
    rw [← hkb] at K1 ⊢
    clear hkb
    obtain ⟨sb, hsb⟩ : ∃ x, x = w.heap.size := ⟨_, rfl⟩
    rw [← hsb] at S1
    have HS : Hid (sb = w.heap.size) := hsb
    refine (IK.out true _ RB.out HV.out).mono ?_
    rintro e v1 ⟨rfl, hb⟩
    replace BB : Hid (Below w.heap.size w v1) := BB.out.trans (hb.mono BB.out.size)
    replace S1 : Hid (BxF v1 w.heap.size 30 4 (fun i => if i = 0 then .slice pa s.n ca else if i = 1 then .int .i64 s.t else if i = 2 then .slice pb s.m cb else .slice pd s.l cd)) := by rw [← hsb]; exact S1.out.below hb
    replace K1 : Hid (v1.cell? ⟨kb, 0, none⟩ = some (.int .i64 c)) := (hb.cell (strBlock K1.out)).trans K1.out
    replace HV : Hid (SvV v1 s ⟨pa, pb, pd, PA, PB, PD, PX, PY, PZ, ca, cb, cd⟩) := HV.out.below hb
    clear hb IK RB hsb HS sb
    have t0 : v1.cell? ⟨w.heap.size, 0, none⟩ = some (.slice pa s.n ca) := S1.out.cell 0 (by omega)
    have t1 : v1.cell? ⟨w.heap.size, 1, none⟩ = some (.int .i64 s.t) := S1.out.cell 1 (by omega)
    have t2 : v1.cell? ⟨w.heap.size, 2, none⟩ = some (.slice pb s.m cb) := S1.out.cell 2 (by omega)
    have t3 : v1.cell? ⟨w.heap.size, 3, none⟩ = some (.slice pd s.l cd) := S1.out.cell 3 (by omega)
    go_wp2_with fail
    clear t0 t1 t2 t3
    refine (TH.out kb _ (by have := N7.out; omega) HV.out K1.out).mono ?_
    rintro e v2 ⟨⟨a, n, k, C, rfl, hn, hie, hho⟩, hb⟩
    have RT : Hid (RetHc s c w.heap.size (.returned (.tuple #[.slice a n k, .int .i64 0])) v2) := ⟨a, n, k, C, 0, rfl, .inr ⟨OK.out, by have := N7.out; omega, rfl, hho⟩, EO.mono hie BB.out.size⟩
    replace BB : Hid (Below w.heap.size w v2) := BB.out.trans (hb.mono BB.out.size)
    clear hb hie hho TH S1 K1 HV OK N7
    go_wp2
    go_ret2
    exact ⟨RT.out, BB.out⟩
  · have RB : Hid (false = sB s.Ok) := (sB_no ok).symm
    have OK : Hid (¬ s.Ok) := ok
    clear ok TH K1
    go_enter Try.func17, Try.ntmps17
    go_wp2_with fail
    generalize ((w.alloc (.cells #[.slice pa s.n ca, .int .i64 s.t, .slice pb s.m cb, .slice pd s.l cd] 30)).alloc (.cells #[.int .i64 c] 3)) = v0 at *
    refine (IK.out false _ RB.out HV.out).mono ?_
    rintro e v1 ⟨rfl, hb⟩
    replace BB : Hid (Below w.heap.size w v1) := BB.out.trans (hb.mono BB.out.size)
    have RT : Hid (RetHc s c w.heap.size (.returned (.tuple #[.slice none 0 0, .int .i64 1])) v1) := ⟨none, 0, 0, fun _ => 0, 1, rfl, .inl ⟨OK.out, rfl, rfl⟩, EO.nil _ _ _ _ _⟩
    clear hb S1 HV IK RB OK
    go_wp2
    go_ret2
    exact ⟨RT.out, BB.out⟩
set_option maxRecDepth 100000 in
set_option maxHeartbeats 4000000 in
theorem specHo_v (s : Sv) (p : Sa) (c : Int) (hx : s.max 1048576) (w : World) (h : SvV w s p) :
    Calls Try.prog 18 #[.agg #[.slice p.a s.n p.ca, .int .i64 s.t, .slice p.b s.m p.cb, .slice p.d s.l p.cd], .int .i64 c] w fun e w' => RetHc s c w.heap.size e w' ∧ Below w.heap.size w w' := by
  have IK : Hid (∀ (r : Bool) (w : World), r = sB s.Ok → SvV w s p → Calls Try.prog 44 #[.agg #[.slice p.a s.n p.ca, .int .i64 s.t, .slice p.b s.m p.cb, .slice p.d s.l p.cd]] w fun e w' => e = .returned (.bool r) ∧ Below w.heap.size w w') := fun r w hr h => specSvOK_v s p hx r hr w h
  obtain ⟨pa, pb, pd, PA, PB, PD, PX, PY, PZ, ca, cb, cd⟩ := p
  dsimp only at IK ⊢
  have BB : Hid (Below w.heap.size w (w.alloc (.cells #[.slice pa s.n ca, .int .i64 s.t, .slice pb s.m cb, .slice pd s.l cd] 30))) := (Below.refl w.heap.size w).alloc (Nat.le_refl _) _
  have S1 : Hid (BxF (w.alloc (.cells #[.slice pa s.n ca, .int .i64 s.t, .slice pb s.m cb, .slice pd s.l cd] 30)) w.heap.size 30 4 (fun i => if i = 0 then .slice pa s.n ca else if i = 1 then .int .i64 s.t else if i = 2 then .slice pb s.m cb else .slice pd s.l cd)) := BxF.sv _ _ _ _ _
  have HV : Hid (SvV (w.alloc (.cells #[.slice pa s.n ca, .int .i64 s.t, .slice pb s.m cb, .slice pd s.l cd] 30)) s ⟨pa, pb, pd, PA, PB, PD, PX, PY, PZ, ca, cb, cd⟩) := h.below BB.out
  clear h hx
  by_cases ok : s.Ok
  · have RB : Hid (true = sB s.Ok) := (sB_yes ok).symm
    have N7 : Hid (s.n ≤ 7) := ok.1.1.2
    have OK : Hid s.Ok := ok
    clear ok
    go_enter Try.func18, Try.ntmps18
    go_wp2_with fail
    generalize (w.alloc (.cells #[.slice pa s.n ca, .int .i64 s.t, .slice pb s.m cb, .slice pd s.l cd] 30)) = v0 at *
    obtain ⟨sb, hsb⟩ : ∃ x, x = w.heap.size := ⟨_, rfl⟩
    rw [← hsb] at S1 ⊢
    clear hsb
    refine (IK.out true _ RB.out HV.out).mono ?_
    rintro e v1 ⟨rfl, hb⟩
    replace BB : Hid (Below w.heap.size w v1) := BB.out.trans (hb.mono BB.out.size)
    replace S1 : Hid (BxF v1 sb 30 4 (fun i => if i = 0 then .slice pa s.n ca else if i = 1 then .int .i64 s.t else if i = 2 then .slice pb s.m cb else .slice pd s.l cd)) := S1.out.below hb
    replace HV : Hid (SvV v1 s ⟨pa, pb, pd, PA, PB, PD, PX, PY, PZ, ca, cb, cd⟩) := HV.out.below hb
    clear hb IK RB
    have W0S : Hid (w.heap.size ≤ v1.heap.size) := BB.out.size
    have b1 : Below v1.heap.size v1 (v1.alloc (.cells #[] 3)) := (Below.refl _ _).alloc (Nat.le_refl _) _
    have I1 : Hid (IE (v1.alloc (.cells #[] 3)) v1.heap.size (.slice (some ⟨v1.heap.size, 0, none⟩) 0 0) 0 (fun _ => 0)) := IE.lit v1 v1.heap.size (Nat.le_refl _) _
    have B1 : Hid (Below v1.heap.size v1 (v1.alloc (.cells #[] 3))) := b1
    clear b1
    go_wp2
    generalize (v1.alloc (.cells #[] 3)) = v2 at *
    go_loopw [6, 7] (fun ov i wr => ∃ (q n : Nat) (a : Option Addr) (k : Nat) (C : Nat → Int), q ≤ s.n ∧ n ≤ q ∧ ov = .slice a n k ∧ i = .int .i64 q ∧ IE wr v1.heap.size (.slice a n k) n C ∧ HoIs s c q n C ∧ Below v1.heap.size v1 wr) (fun ov i _ => s.n - (intOf i).toNat)
    case atStart => exact ⟨0, 0, _, 0, fun _ => 0, by omega, by omega, rfl, rfl, I1.out, .zero _, B1.out⟩
    case round =>
      obtain ⟨q, n, a, k, C, hq, hn, rfl, rfl, hie, hho, hb⟩ := hrel
      have EA : Hid (IE wr v1.heap.size (.slice a n k) n C) := hie
      have HH : Hid (HoIs s c q n C) := hho
      have A1 : Hid (Below v1.heap.size v1 wr) := hb
      replace HV : Hid (SvV wr s ⟨pa, pb, pd, PA, PB, PD, PX, PY, PZ, ca, cb, cd⟩) := HV.out.below hb
      replace BB : Hid (Below w.heap.size w wr) := BB.out.trans (hb.mono BB.out.size)
      replace S1 : Hid (BxF wr sb 30 4 (fun i => if i = 0 then .slice pa s.n ca else if i = 1 then .int .i64 s.t else if i = 2 then .slice pb s.m cb else .slice pd s.l cd)) := S1.out.below hb
      clear hie hho hb I1 B1
      have t0 : wr.cell? ⟨sb, 0, none⟩ = some (.slice pa s.n ca) := S1.out.cell 0 (by omega)
      have t1 : wr.cell? ⟨sb, 1, none⟩ = some (.int .i64 s.t) := S1.out.cell 1 (by omega)
      have t2 : wr.cell? ⟨sb, 2, none⟩ = some (.slice pb s.m cb) := S1.out.cell 2 (by omega)
      have t3 : wr.cell? ⟨sb, 3, none⟩ = some (.slice pd s.l cd) := S1.out.cell 3 (by omega)
      by_cases hlt : q < s.n
      · have hlt' : (q : Int) < (s.n : Int) := by omega
        have n7 : s.n ≤ 7 := N7.out
        have NX : Hid (Hold s c q → HoIs s c (q + 1) (n + 1) (updE C n (q : Int))) := HH.out.yes
        have NN : Hid (¬ Hold s c q → HoIs s c (q + 1) n C) := HH.out.no
        have HD : Hid (Hold s c q ↔ (s.R q).mute = false ∧ c ≤ (s.R q).nc) := Iff.rfl
        generalize Hold s c q = HQ at *
        obtain ⟨b, off, rfl, hc⟩ := HV.out.1.at hlt
        have c_0 : wr.cell? ⟨b, off + q * 8, none⟩ = some (.bool (s.R q).mute) := hc 0 (by omega)
        have c_1 : wr.cell? ⟨b, off + q * 8 + 1, none⟩ = some (.int .i64 (s.R q).nc) := hc 1 (by omega)
        generalize s.R q = r at *
        clear hc HV HH S1
        by_cases hd : r.mute = false ∧ c ≤ r.nc
        · have p2 : (!r.mute) = true := by rw [hd.1]; rfl
          have p3 : c ≤ r.nc := hd.2
          have NX' : Hid (HoIs s c (q + 1) (n + 1) (updE C n (q : Int))) := NX.out (HD.out.mpr hd)
          clear NX NN HD hd
          have hbA : Below wr.heap.size wr (wr.alloc (.cells #[.int .i64 (q : Int)] 3)) := (Below.refl _ _).alloc (Nat.le_refl _) _
          obtain ⟨v', u3, hrun, ho, hgr, hloc⟩ := IE.app (wr.alloc (.cells #[.int .i64 (q : Int)] 3)) v1.heap.size (.slice a n k) n wr.heap.size C (q : Int) (by have := A1.out.size; simp; omega) (by omega) (EO.below EA.out hbA) (by simp)
          have ho' : IE u3 v1.heap.size v' (n + 1) (updE C n (q : Int)) := ho
          obtain ⟨g2, c2, rfl⟩ : ∃ g2 c2, v' = .slice (some ⟨g2, 0, none⟩) (n + 1) c2 := by
            obtain ⟨hl, ⟨_, h0⟩ | ⟨g', cap, cur, hv, _⟩⟩ := ho
            · omega
            · subst hv
              exact ⟨g', _, rfl⟩
          have EA3 : Hid (IE u3 v1.heap.size (.slice (some ⟨g2, 0, none⟩) (n + 1) c2) (n + 1) (updE C n (q : Int))) := ho'
          have A3 : Hid (Below v1.heap.size v1 u3) := (A1.out.trans (hbA.mono A1.out.size)).grown hgr (by have := A1.out.size; simp; omega) (fun g e => (EO.ge EA.out g e).1)
          clear EA A1 hbA ho ho' hgr hloc BB
          go_wp2_with (at_builtin; refine Lib.wpList_append_run _ rfl (.tmp 38) (.tmp 40) 31 31 rfl (.slice a n k) (.slice (some ⟨wr.heap.size, 0, none⟩) 1 1) rfl rfl _ _ (hrun _) ?_)
          go_roundw
          case rel => exact ⟨q + 1, n + 1, _, c2, _, by omega, by omega, rfl, by go_num, EA3.out, NX'.out, A3.out⟩
          case measure => simp [intOf]; omega
        · have NN' : Hid (HoIs s c (q + 1) n C) := NN.out (fun y => hd (HD.out.mp y))
          rcases (show r.mute = false ∨ r.mute = true by cases r.mute <;> simp) with hmu | hmu
          · have p2 : (!r.mute) = true := by rw [hmu]; rfl
            have p3 : ¬ c ≤ r.nc := fun y => hd ⟨hmu, y⟩
            clear NX NN HD hd hmu BB
            go_wp2
            go_roundw
            case rel => exact ⟨q + 1, n, a, k, C, by omega, by omega, rfl, by go_num, EA.out, NN'.out, A1.out⟩
            case measure => simp [intOf]; omega
          · have p2 : (!r.mute) = false := by rw [hmu]; rfl
            clear NX NN HD hd hmu BB
            go_wp2
            go_roundw
            case rel => exact ⟨q + 1, n, a, k, C, by omega, by omega, rfl, by go_num, EA.out, NN'.out, A1.out⟩
            case measure => simp [intOf]; omega
      · have hlt' : ¬ (q : Int) < (s.n : Int) := by omega
        have RT : Hid (RetHc s c w.heap.size (.returned (.tuple #[.slice a n k, .int .i64 0])) wr) := ⟨a, n, k, C, 0, rfl, .inr ⟨OK.out, by have := N7.out; omega, rfl, by have := HH.out; rwa [show q = s.n by omega] at this⟩, EO.mono EA.out W0S.out⟩
        clear EA HH HV A1 S1
        go_wp2
        go_ret2
        exact ⟨RT.out, BB.out⟩
  · have RB : Hid (false = sB s.Ok) := (sB_no ok).symm
    have OK : Hid (¬ s.Ok) := ok
    clear ok
    go_enter Try.func18, Try.ntmps18
    go_wp2_with fail
    generalize (w.alloc (.cells #[.slice pa s.n ca, .int .i64 s.t, .slice pb s.m cb, .slice pd s.l cd] 30)) = v0 at *
    refine (IK.out false _ RB.out HV.out).mono ?_
    rintro e v1 ⟨rfl, hb⟩
    replace BB : Hid (Below w.heap.size w v1) := BB.out.trans (hb.mono BB.out.size)
    have RT : Hid (RetHc s c w.heap.size (.returned (.tuple #[.slice (some ⟨v1.heap.size, 0, none⟩) 0 0, .int .i64 1])) (v1.alloc (.cells #[] 3))) := ⟨_, 0, 0, fun _ => 0, 1, rfl, .inl ⟨OK.out, rfl, rfl⟩, IE.lit v1 _ BB.out.size _⟩
    replace BB : Hid (Below w.heap.size w (v1.alloc (.cells #[] 3))) := BB.out.alloc BB.out.size _
    clear hb S1 HV IK RB OK
    go_wp2
    go_ret2
    exact ⟨RT.out, BB.out⟩
end Go.Proofs.Ytdoacpnjggdojaa
