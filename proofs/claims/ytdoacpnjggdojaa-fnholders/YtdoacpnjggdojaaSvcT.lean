/-
  Holders of the program (written by tools/mksvt.py).
-/
import Derived.Test.YtdoacpnjggdojaaSvcW
namespace Go.Proofs.Ytdoacpnjggdojaa
open Go.ChangeShapes Go.WideShapes Go.ChangeAt Go.RowKit
set_option linter.unusedVariables false
/-- The replica i speaks and has the counter c or a later one. -/
def Hold (s : Sv) (c : Int) (i : Nat) : Prop := (s.R i).mute = false ∧ c ≤ (s.R i).nc
/-- n numbers C are those of the first q replicas that hold c. -/
inductive HoIs (s : Sv) (c : Int) : Nat → Nat → (Nat → Int) → Prop
  | zero (C : Nat → Int) : HoIs s c 0 0 C
  | yes {q n : Nat} {C : Nat → Int} : HoIs s c q n C → Hold s c q → HoIs s c (q + 1) (n + 1) (updE C n (q : Int))
  | no {q n : Nat} {C : Nat → Int} : HoIs s c q n C → ¬ Hold s c q → HoIs s c (q + 1) n C
theorem HoIs.uniq {s : Sv} {c : Int} {q n : Nat} {C : Nat → Int} (h : HoIs s c q n C) : ∀ {m : Nat} {E : Nat → Int}, HoIs s c q m E → n = m ∧ ∀ i, i < n → C i = E i := by
  induction h with
  | zero C => intro m E h'; cases h'; exact ⟨rfl, fun i hi => absurd hi (by omega)⟩
  | yes h1 h2 ih =>
    intro m E h'
    cases h' with
    | yes g1 g2 =>
      obtain ⟨rfl, e⟩ := ih g1
      refine ⟨rfl, fun i hi => ?_⟩
      unfold updE
      split
      · rfl
      · exact e i (by omega)
    | no g1 g2 => exact absurd h2 g2
  | no h1 h2 ih =>
    intro m E h'
    cases h' with
    | yes g1 g2 => exact absurd g2 h2
    | no g1 g2 => exact ih g1
def RetHo (s : Sv) (c : Int) (B : Nat) (e : Ending) (w : World) : Prop := ∃ (a : Option Addr) (n k : Nat) (C : Nat → Int), e = .returned (.slice a n k) ∧ n ≤ s.n ∧ IE w B (.slice a n k) n C ∧ HoIs s c s.n n C
set_option maxRecDepth 100000 in
set_option maxHeartbeats 2000000 in
theorem clo4_v (r : Rp) (A : Option Addr) (X : Nat) (c : Int) (kb : Nat) (w : World) (hk : w.cell? ⟨kb, 0, none⟩ = some (.int .i64 c)) :
    Calls Try.prog 53 #[.agg #[.bool r.mute, .int .i64 r.nc, .int .i64 r.nt, .int .i64 r.sc, .int .i64 r.st, .slice A r.ne X, .int .i64 r.bc, .int .i64 r.bt], .pointer (some ⟨kb, 0, none⟩)] w fun e w' => e = .returned (.bool (sB (r.mute = false ∧ c ≤ r.nc))) ∧ Below w.heap.size w w' := by
  have hb : Below w.heap.size w (w.alloc (.cells #[.bool r.mute, .int .i64 r.nc, .int .i64 r.nt, .int .i64 r.sc, .int .i64 r.st, .slice A r.ne X, .int .i64 r.bc, .int .i64 r.bt] 50)) := (Below.refl _ _).alloc (Nat.le_refl _) _
  have BB : Hid (Below w.heap.size w (w.alloc (.cells #[.bool r.mute, .int .i64 r.nc, .int .i64 r.nt, .int .i64 r.sc, .int .i64 r.st, .slice A r.ne X, .int .i64 r.bc, .int .i64 r.bt] 50))) := hb
  have t0 : (w.alloc (.cells #[.bool r.mute, .int .i64 r.nc, .int .i64 r.nt, .int .i64 r.sc, .int .i64 r.st, .slice A r.ne X, .int .i64 r.bc, .int .i64 r.bt] 50)).cell? ⟨kb, 0, none⟩ = some (.int .i64 c) := (hb.cell (strBlock hk)).trans hk
  clear hb hk
  rcases (show r.mute = false ∨ r.mute = true by cases r.mute <;> simp) with hmu | hmu
  · have p2 : (!r.mute) = true := by rw [hmu]; rfl
    by_cases hl : c ≤ r.nc
    · rw [sB_yes ⟨hmu, hl⟩]
      clear hmu
      go_enter Try.func53, Try.ntmps53
      go_wp2
      go_ret
      exact ⟨by first | rfl | simp [hl], BB.out⟩
    · rw [sB_no (fun y => hl y.2)]
      clear hmu
      go_enter Try.func53, Try.ntmps53
      go_wp2
      go_ret
      exact ⟨by first | rfl | (simp; omega), BB.out⟩
  · have p2 : (!r.mute) = false := by rw [hmu]; rfl
    rw [sB_no (fun y => by rw [hmu] at y; cases y.1)]
    clear hmu
    go_enter Try.func53, Try.ntmps53
    go_wp2
    go_ret
    exact ⟨by first | rfl | simp, BB.out⟩
set_option maxRecDepth 100000 in
set_option maxHeartbeats 4000000 in
theorem those_v (s : Sv) (p : Sa) (c : Int) (kb : Nat) (hx : s.n ≤ 1000) (w : World) (h : SvV w s p) (hk : w.cell? ⟨kb, 0, none⟩ = some (.int .i64 c)) :
    Calls Try.prog 52 #[.agg #[.slice p.a s.n p.ca, .int .i64 s.t, .slice p.b s.m p.cb, .slice p.d s.l p.cd], .func (.func 53) #[] #[.pointer (some ⟨kb, 0, none⟩)]] w fun e w' => RetHo s c w.heap.size e w' ∧ Below w.heap.size w w' := by
  obtain ⟨pa, pb, pd, PA, PB, PD, PX, PY, PZ, ca, cb, cd⟩ := p
  dsimp only
  have HV : Hid (SvV w s ⟨pa, pb, pd, PA, PB, PD, PX, PY, PZ, ca, cb, cd⟩) := h
  have KC : Hid (∀ u : World, Below w.heap.size w u → u.cell? ⟨kb, 0, none⟩ = some (.int .i64 c)) := fun u hb => (hb.cell (strBlock hk)).trans hk
  have B0 : Hid (Below w.heap.size w (w.alloc (.cells #[.slice pa s.n ca, .int .i64 s.t, .slice pb s.m cb, .slice pd s.l cd] 30))) := (Below.refl _ _).alloc (Nat.le_refl _) _
  clear h hk
  go_enter Try.func52, Try.ntmps52
  go_wp2
  generalize (w.alloc (.cells #[.slice pa s.n ca, .int .i64 s.t, .slice pb s.m cb, .slice pd s.l cd] 30)) = v0 at *
  go_loopw [5, 11] (fun ov i wr => ∃ (q n : Nat) (a : Option Addr) (k : Nat) (C : Nat → Int), q ≤ s.n ∧ n ≤ q ∧ ov = .slice a n k ∧ i = .int .i64 q ∧ IE wr w.heap.size (.slice a n k) n C ∧ HoIs s c q n C ∧ Below w.heap.size w wr) (fun ov i _ => s.n - (intOf i).toNat)
  case atStart => exact ⟨0, 0, none, 0, fun _ => 0, by omega, by omega, rfl, rfl, EO.nil _ _ _ _ _, .zero _, B0.out⟩
  case round =>
    obtain ⟨q, n, a, k, C, hq, hn, rfl, rfl, hie, hho, hb⟩ := hrel
    have EA : Hid (IE wr w.heap.size (.slice a n k) n C) := hie
    have HH : Hid (HoIs s c q n C) := hho
    have A1 : Hid (Below w.heap.size w wr) := hb
    replace HV : Hid (SvV wr s ⟨pa, pb, pd, PA, PB, PD, PX, PY, PZ, ca, cb, cd⟩) := HV.out.below hb
    clear hie hho hb
    by_cases hlt : q < s.n
    · have hlt' : (q : Int) < (s.n : Int) := by omega
      have NX : Hid (Hold s c q → HoIs s c (q + 1) (n + 1) (updE C n (q : Int))) := HH.out.yes
      have NN : Hid (¬ Hold s c q → HoIs s c (q + 1) n C) := HH.out.no
      have HD : Hid (Hold s c q ↔ (s.R q).mute = false ∧ c ≤ (s.R q).nc) := Iff.rfl
      generalize Hold s c q = HQ at *
      obtain ⟨b, off, rfl, hc⟩ := HV.out.1.at hlt
      generalize hR : s.R q = r at *
      generalize hA : PA q = A at *
      generalize hX : PX q = X at *
      have c_0 : wr.cell? ⟨b, off + q * 8, none⟩ = some (.bool r.mute) := by have := hc 0 (by omega); simpa [rpF, rpV, hA, hX, hR] using this
      have c_1 : wr.cell? ⟨b, off + q * 8 + 1, none⟩ = some (.int .i64 r.nc) := by have := hc 1 (by omega); simpa [rpF, rpV, hA, hX, hR] using this
      have c_2 : wr.cell? ⟨b, off + q * 8 + 2, none⟩ = some (.int .i64 r.nt) := by have := hc 2 (by omega); simpa [rpF, rpV, hA, hX, hR] using this
      have c_3 : wr.cell? ⟨b, off + q * 8 + 3, none⟩ = some (.int .i64 r.sc) := by have := hc 3 (by omega); simpa [rpF, rpV, hA, hX, hR] using this
      have c_4 : wr.cell? ⟨b, off + q * 8 + 4, none⟩ = some (.int .i64 r.st) := by have := hc 4 (by omega); simpa [rpF, rpV, hA, hX, hR] using this
      have c_5 : wr.cell? ⟨b, off + q * 8 + 5, none⟩ = some (.slice A r.ne X) := by have := hc 5 (by omega); simpa [rpF, rpV, hA, hX, hR] using this
      have c_6 : wr.cell? ⟨b, off + q * 8 + 6, none⟩ = some (.int .i64 r.bc) := by have := hc 6 (by omega); simpa [rpF, rpV, hA, hX, hR] using this
      have c_7 : wr.cell? ⟨b, off + q * 8 + 7, none⟩ = some (.int .i64 r.bt) := by have := hc 7 (by omega); simpa [rpF, rpV, hA, hX, hR] using this
      clear hc hA hX hR HV HH
      have WB : Below wr.heap.size wr (wr.alloc (.cells #[.bool r.mute, .int .i64 r.nc, .int .i64 r.nt, .int .i64 r.sc, .int .i64 r.st, .slice A r.ne X, .int .i64 r.bc, .int .i64 r.bt] 50)) := (Below.refl _ _).alloc (Nat.le_refl _) _
      replace A1 : Hid (Below w.heap.size w (wr.alloc (.cells #[.bool r.mute, .int .i64 r.nc, .int .i64 r.nt, .int .i64 r.sc, .int .i64 r.st, .slice A r.ne X, .int .i64 r.bc, .int .i64 r.bt] 50))) := A1.out.trans (WB.mono A1.out.size)
      replace EA : Hid (IE (wr.alloc (.cells #[.bool r.mute, .int .i64 r.nc, .int .i64 r.nt, .int .i64 r.sc, .int .i64 r.st, .slice A r.ne X, .int .i64 r.bc, .int .i64 r.bt] 50)) w.heap.size (.slice a n k) n C) := EO.below EA.out WB
      have CC : Hid (Calls Try.prog 53 #[.agg #[.bool r.mute, .int .i64 r.nc, .int .i64 r.nt, .int .i64 r.sc, .int .i64 r.st, .slice A r.ne X, .int .i64 r.bc, .int .i64 r.bt], .pointer (some ⟨kb, 0, none⟩)] (wr.alloc (.cells #[.bool r.mute, .int .i64 r.nc, .int .i64 r.nt, .int .i64 r.sc, .int .i64 r.st, .slice A r.ne X, .int .i64 r.bc, .int .i64 r.bt] 50)) fun e w' => e = .returned (.bool (sB (r.mute = false ∧ c ≤ r.nc))) ∧ Below ((wr.alloc (.cells #[.bool r.mute, .int .i64 r.nc, .int .i64 r.nt, .int .i64 r.sc, .int .i64 r.st, .slice A r.ne X, .int .i64 r.bc, .int .i64 r.bt] 50))).heap.size (wr.alloc (.cells #[.bool r.mute, .int .i64 r.nc, .int .i64 r.nt, .int .i64 r.sc, .int .i64 r.st, .slice A r.ne X, .int .i64 r.bc, .int .i64 r.bt] 50)) w') := clo4_v r A X c kb _ (KC.out _ A1.out)
      clear WB
      go_wp2_with fail
      clear c_0 c_1 c_2 c_3 c_4 c_5 c_6 c_7
      generalize (wr.alloc (.cells #[.bool r.mute, .int .i64 r.nc, .int .i64 r.nt, .int .i64 r.sc, .int .i64 r.st, .slice A r.ne X, .int .i64 r.bc, .int .i64 r.bt] 50)) = u0 at *
      refine CC.out.mono ?_
      rintro e u1 ⟨rfl, hb⟩
      replace A1 : Hid (Below w.heap.size w u1) := A1.out.trans (hb.mono A1.out.size)
      replace EA : Hid (IE u1 w.heap.size (.slice a n k) n C) := EO.below EA.out hb
      clear hb CC
      by_cases hd : r.mute = false ∧ c ≤ r.nc
      · rw [sB_yes hd]
        replace NX := NX.out (HD.out.mpr hd)
        have NX' : Hid (HoIs s c (q + 1) (n + 1) (updE C n (q : Int))) := NX
        clear NX NN HD hd
        have hbA : Below u1.heap.size u1 (u1.alloc (.cells #[.int .i64 (q : Int)] 3)) := (Below.refl _ _).alloc (Nat.le_refl _) _
        obtain ⟨v', u3, hrun, ho, hgr, hloc⟩ := IE.app (u1.alloc (.cells #[.int .i64 (q : Int)] 3)) w.heap.size (.slice a n k) n u1.heap.size C (q : Int) (by have := A1.out.size; simp; omega) (by omega) (EO.below EA.out hbA) (by simp)
        have ho' : IE u3 w.heap.size v' (n + 1) (updE C n (q : Int)) := ho
        obtain ⟨g2, c2, rfl⟩ : ∃ g2 c2, v' = .slice (some ⟨g2, 0, none⟩) (n + 1) c2 := by
          obtain ⟨hl, ⟨_, h0⟩ | ⟨g', cap, cur, hv, _⟩⟩ := ho
          · omega
          · subst hv
            exact ⟨g', _, rfl⟩
        have EA3 : Hid (IE u3 w.heap.size (.slice (some ⟨g2, 0, none⟩) (n + 1) c2) (n + 1) (updE C n (q : Int))) := ho'
        have A3 : Hid (Below w.heap.size w u3) := (A1.out.trans (hbA.mono A1.out.size)).grown hgr (by have := A1.out.size; simp; omega) (fun g e => (EO.ge EA.out g e).1)
        clear EA A1 hbA ho ho' hgr hloc
        go_wp2_with (at_builtin; refine Lib.wpList_append_run _ rfl (.tmp 19) (.tmp 21) 31 31 rfl (.slice a n k) (.slice (some ⟨u1.heap.size, 0, none⟩) 1 1) rfl rfl _ _ (hrun _) ?_)
        go_roundw
        case rel => exact ⟨q + 1, n + 1, _, c2, _, by omega, by omega, rfl, by go_num, EA3.out, NX'.out, A3.out⟩
        case measure => simp [intOf]; omega
      · rw [sB_no hd]
        have NN' : Hid (HoIs s c (q + 1) n C) := NN.out (fun y => hd (HD.out.mp y))
        clear NX NN HD hd
        go_wp2
        go_roundw
        case rel => exact ⟨q + 1, n, a, k, C, by omega, by omega, rfl, by go_num, EA.out, NN'.out, A1.out⟩
        case measure => simp [intOf]; omega
    · have hlt' : ¬ (q : Int) < (s.n : Int) := by omega
      have RT : Hid (RetHo s c w.heap.size (.returned (.slice a n k)) wr) := ⟨a, n, k, C, rfl, by omega, EA.out, by have := HH.out; rwa [show q = s.n by omega] at this⟩
      clear EA HH HV
      go_wp2
      go_ret
      exact ⟨RT.out, A1.out⟩
end Go.Proofs.Ytdoacpnjggdojaa
