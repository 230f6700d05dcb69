/-
  The exact law of Holders (written by tools/ho_law.py).
-/
import Derived.Test.YtpljdlgjeeikkabSvcTs
import Derived.Test.YtpljdlgjeeikkabSvcKs
import Derived.Test.YtpljdlgjeeikkabIntK
namespace Go.Proofs.Ytpljdlgjeeikkab
open Go.ChangeShapes Go.WideShapes Go.ChangeAt Go.RowKit
set_option linter.unusedVariables false
theorem HoIs.ex (s : Sv) (c : Int) (q : Nat) : ∃ n C, n ≤ q ∧ HoIs s c q n C := by
  induction q with
  | zero => exact ⟨0, fun _ => 0, by omega, .zero _⟩
  | succ q ih =>
    obtain ⟨n, C, hn, h⟩ := ih
    by_cases hd : Hold s c q
    · exact ⟨_, _, by omega, .yes h hd⟩
    · exact ⟨_, _, by omega, .no h hd⟩
theorem HoCase.ex (s : Sv) (c : Int) : ∃ n C code, HoCase s c n C code := by
  by_cases ok : s.Ok
  · obtain ⟨n, C, hn, h⟩ := HoIs.ex s c s.n
    exact ⟨n, C, 0, .inr ⟨ok, by have := ok.1.1.2; omega, rfl, h⟩⟩
  · exact ⟨0, fun _ => 0, 1, .inl ⟨ok, rfl, rfl⟩⟩
theorem RetHc.rows {s : Sv} {c : Int} {B : Nat} {e : Ending} {w : World} (h : RetHc s c B e w) {n : Nat} {H : Nat → Int} {cd : Int} (hc : HoCase s c n H cd) : ∃ (a : Option Addr) (k g : Nat), e = .returned (.tuple #[.slice a n k, .int .i64 cd]) ∧ RowE w 1 a g n (inF H) ∧ (0 < n → B ≤ g ∧ g < w.heap.size) := by
  obtain ⟨a, m, k, C, x, rfl, h1, h2⟩ := h
  obtain ⟨rfl, rfl, _, e⟩ := h1.uniq hc
  obtain ⟨g, hg, hb⟩ := EO.rowE (IE.congr h2 e)
  exact ⟨a, k, g, rfl, hg, fun q => ⟨hb q, hg.lt (by omega) q⟩⟩
set_option maxRecDepth 100000 in
set_option maxHeartbeats 8000000 in
theorem law_holders (s : Sv) (p : Sa) (c : Int) (hm : s.max maxLen) (w : World) (h : SvV w s p) :
    Calls Try.prog 4 #[.agg #[.slice p.a s.n p.ca, .int .i64 s.t, .slice p.b s.m p.cb, .slice p.d s.l p.cd], .int .i64 c] w fun e w' => e = .returned (.bool true) ∧ Below w.heap.size w w' := by
  have A1 : Hid (Below w.heap.size w (w.alloc (.cells #[.slice p.a s.n p.ca, .int .i64 s.t, .slice p.b s.m p.cb, .slice p.d s.l p.cd] 45))) := (Below.refl _ _).alloc (Nat.le_refl _) _
  have X : Hid (Box4 (w.alloc (.cells #[.slice p.a s.n p.ca, .int .i64 s.t, .slice p.b s.m p.cb, .slice p.d s.l p.cd] 45)) w.heap.size 45 (.slice p.a s.n p.ca) (.int .i64 s.t) (.slice p.b s.m p.cb) (.slice p.d s.l p.cd)) := Box4.madeAt rfl _ _ _ _ _
  have HE : Hid (∀ u : World, Below w.heap.size w u → SvV u s p) := fun u hb => h.below hb
  have SZ : Hid (∀ w : World, SvV w s p → Calls Try.prog 19 #[.agg #[.slice p.a s.n p.ca, .int .i64 s.t, .slice p.b s.m p.cb, .slice p.d s.l p.cd], .int .i64 1048576] w fun e w' => (∃ y : Int, e = .returned (.int .i64 y) ∧ (0 ≤ y → s.max 1048576)) ∧ Below w.heap.size w w') := fun w h => szService_any s p w h hm
  have SU : Hid (w.heap.size < ((w.alloc (.cells #[.slice p.a s.n p.ca, .int .i64 s.t, .slice p.b s.m p.cb, .slice p.d s.l p.cd] 45))).heap.size) := by show w.heap.size < _; simp
  clear h hm
  go_enter Try.func4, Try.ntmps4
  go_wp2_with fail
  generalize (w.alloc (.cells #[.slice p.a s.n p.ca, .int .i64 s.t, .slice p.b s.m p.cb, .slice p.d s.l p.cd] 45)) = v0 at *
  obtain ⟨vb, hvb⟩ : ∃ x, x = w.heap.size := ⟨_, rfl⟩
  have VBH : Hid (vb = w.heap.size) := hvb
  rw [← hvb] at X ⊢
  clear hvb
  refine (SZ.out _ (HE.out _ A1.out)).mono ?_
  rintro e v1 ⟨⟨y, rfl, hy⟩, hb⟩
  replace A1 : Hid (Below w.heap.size w v1) := A1.out.trans (hb.mono A1.out.size)
  replace X : Hid (Box4 v1 vb 45 (.slice p.a s.n p.ca) (.int .i64 s.t) (.slice p.b s.m p.cb) (.slice p.d s.l p.cd)) := X.out.below hb
  replace SU : Hid (w.heap.size < (v1).heap.size) := Nat.lt_of_lt_of_le SU.out hb.size
  clear hb
  clear SZ
  by_cases hy0 : y < 0
  · clear hy
    go_wp2
    go_ret
    exact ⟨rfl, A1.out⟩
  have hx : s.max 1048576 := hy (by omega)
  clear hy
  obtain ⟨n, H, cd, hcs⟩ := HoCase.ex s c
  have n7 : n ≤ 7 := (hcs.uniq hcs).2.2.1
  have TX : Hid (∀ w : World, SvV w s p → Calls Try.prog 21 #[.agg #[.slice p.a s.n p.ca, .int .i64 s.t, .slice p.b s.m p.cb, .slice p.d s.l p.cd]] w fun e w' => (∃ (ga gb gd : Nat) (VA VB VD : Nat → Nat), e = .returned (.agg #[.slice (some ⟨ga, 0, none⟩) s.n s.n, .int .i64 s.t, .slice (some ⟨gb, 0, none⟩) s.m s.m, .slice (some ⟨gd, 0, none⟩) s.l s.l]) ∧ RpO w' w.heap.size ga s.n s.R VA ∧ WoO w' w.heap.size gb s.m s.W VB ∧ RoO w' w.heap.size gd s.l s.Q VD ∧ OrdS s ga gb gd VA VB) ∧ Below w.heap.size w w') := fun w h => toService_ord s p hx w h
  have TO : Hid (∀ w : World, SvV w s p → Calls Try.prog 21 #[.agg #[.slice p.a s.n p.ca, .int .i64 s.t, .slice p.b s.m p.cb, .slice p.d s.l p.cd]] w fun e w' => (∃ q : Sa, e = .returned (.agg #[.slice q.a s.n q.ca, .int .i64 s.t, .slice q.b s.m q.cb, .slice q.d s.l q.cd]) ∧ SvV w' s q) ∧ Below w.heap.size w w') := fun w h => (toService_any s p hx w h).mono fun e w' q => by
    obtain ⟨⟨ga, gb, gd, VA, VB, VD, he, h1, h2, h3⟩, hb⟩ := q
    exact ⟨⟨⟨some ⟨ga, 0, none⟩, some ⟨gb, 0, none⟩, some ⟨gd, 0, none⟩, fun j => some ⟨VA j, 0, none⟩, fun j => some ⟨VB j, 0, none⟩, fun j => some ⟨VD j, 0, none⟩, fun j => (s.R j).ne, fun j => (s.W j).ne, fun j => (s.Q j).ne, s.n, s.m, s.l⟩, he, h1.v, h2.v, h3.v⟩, hb⟩
  have EQ : Hid (∀ (q q' : Sa) (w : World), SvV w s q → SvV w s q' → Calls Try.prog 11 #[.agg #[.slice q.a s.n q.ca, .int .i64 s.t, .slice q.b s.m q.cb, .slice q.d s.l q.cd], .agg #[.slice q'.a s.n q'.ca, .int .i64 s.t, .slice q'.b s.m q'.cb, .slice q'.d s.l q'.cd]] w fun e w' => e = .returned (.bool true) ∧ Below w.heap.size w w') := fun q q' w h h' => eqService_any s q q' hx w h h'
  have SO : Hid (∀ (q : Sa) (w : World), SvV w s q → Calls Try.prog 20 #[.agg #[.slice q.a s.n q.ca, .int .i64 s.t, .slice q.b s.m q.cb, .slice q.d s.l q.cd], .int .i64 c] w fun e w' => (∃ (a : Option Addr) (k g : Nat), e = .returned (.tuple #[.slice a n k, .int .i64 cd]) ∧ RowE w' 1 a g n (inF H) ∧ (0 < n → w.heap.size ≤ g ∧ g < w'.heap.size)) ∧ Below w.heap.size w w') := fun q w h => (specHo_v s q c hx w h).mono fun e w' q => ⟨q.1.rows hcs, q.2⟩
  have IY : Hid (∀ (q : Sa) (w : World), SvV w s q → Calls Try.prog 22 #[.agg #[.slice q.a s.n q.ca, .int .i64 s.t, .slice q.b s.m q.cb, .slice q.d s.l q.cd], .int .i64 c] w fun e w' => (∃ (a : Option Addr) (k g : Nat), e = .returned (.tuple #[.slice a n k, .int .i64 cd]) ∧ RowE w' 1 a g n (inF H) ∧ (0 < n → w.heap.size ≤ g ∧ g < w'.heap.size)) ∧ Below w.heap.size w w') := fun q w h => (implHo_v s q c hx w h).mono fun e w' q => ⟨q.1.rows hcs, q.2⟩
  have EI : Hid (∀ (a b : Option Addr) (x y : Nat) (w : World), Num w a n H → Num w b n H → Calls Try.prog 12 #[.slice a n x, .slice b n y] w fun e w' => e = .returned (.bool true) ∧ Below w.heap.size w w') := fun a b x y w h h' => eqNum_yes a b n x y H w h h' (by omega)
  have MI : Hid (∀ (b : Option Addr) (g x : Nat) (w : World), RowE w 1 b g n (inF H) → Calls Try.prog 16 #[.slice b n x, .int .i64 1] w fun e w' => e = .returned (.int .i64 ((1 + n : Nat) : Int)) ∧ RowE w' 1 b g n (inF (mkC 1)) ∧ TurnedE g n w w') := fun b g x w h => markIntK b g n x 1 H (by omega) w h
  have HI : Hid (∀ (b : Option Addr) (x : Nat) (w : World), Num w b n (mkC 1) → Calls Try.prog 18 #[.slice b n x, .int .i64 1] w fun e w' => e = .returned (.int .i64 ((1 + n : Nat) : Int)) ∧ Below w.heap.size w w') := fun b x w h => heldIntK b n x 1 (by omega) w h
  have MK : Hid (∀ (ga gb gd B S : Nat) (VA VB VD : Nat → Nat) (w : World), RpO w B ga s.n s.R VA → WoO w B gb s.m s.W VB → RoO w B gd s.l s.Q VD → OrdS s ga gb gd VA VB → (gd < S ∧ ∀ j, j < s.l → VD j < S) → S ≤ w.heap.size → Calls Try.prog 15 #[.agg #[.slice (some ⟨ga, 0, none⟩) s.n s.n, .int .i64 s.t, .slice (some ⟨gb, 0, none⟩) s.m s.m, .slice (some ⟨gd, 0, none⟩) s.l s.l], .int .i64 1] w fun e w' => (∃ k : Nat, e = .returned (.int .i64 (k : Int))) ∧ MidK B S w w') := fun ga gb gd B S VA VB VD w h1 h2 h3 h4 h5 h6 => markService_any s ga gb gd B S VA VB VD hx w h1 h2 h3 h4 h5 h6
  obtain ⟨N1, hN1⟩ : ∃ N1 : Int, N1 = ((1 + n : Nat) : Int) := ⟨_, rfl⟩
  have n0 : ¬ N1 < 0 := by omega
  rw [← hN1] at MI HI
  clear hx hcs hN1
  have k0 := X.out.c0
  have k1 := X.out.c1
  have k2 := X.out.c2
  have k3 := X.out.c3
  go_wp2_with fail
  clear k0 k1 k2 k3
  refine (TO.out _ (HE.out _ A1.out)).mono ?_
  rintro e v2 ⟨⟨q0, rfl, hv⟩, hb⟩
  have V0 : Hid (SvV v2 s q0) := hv
  clear hv
  replace A1 : Hid (Below w.heap.size w v2) := A1.out.trans (hb.mono A1.out.size)
  replace X : Hid (Box4 v2 vb 45 (.slice p.a s.n p.ca) (.int .i64 s.t) (.slice p.b s.m p.cb) (.slice p.d s.l p.cd)) := X.out.below hb
  replace SU : Hid (w.heap.size < (v2).heap.size) := Nat.lt_of_lt_of_le SU.out hb.size
  clear hb
  go_wp2_with fail
  refine (SO.out q0 _ V0.out).mono ?_
  rintro e v3 ⟨⟨aw, kw, gw, rfl, hw, hgw⟩, hb⟩
  replace A1 : Hid (Below w.heap.size w v3) := A1.out.trans (hb.mono A1.out.size)
  replace X : Hid (Box4 v3 vb 45 (.slice p.a s.n p.ca) (.int .i64 s.t) (.slice p.b s.m p.cb) (.slice p.d s.l p.cd)) := X.out.below hb
  replace SU : Hid (w.heap.size < (v3).heap.size) := Nat.lt_of_lt_of_le SU.out hb.size
  clear hb
  have WR : Hid (RowE v3 1 aw gw n (inF H)) := hw
  obtain ⟨B0, hB0⟩ : ∃ x, x = v3.heap.size := ⟨_, rfl⟩
  have L1 : Hid (w.heap.size < B0 ∧ (0 < n → gw < B0)) := by rw [hB0]; exact ⟨SU.out, fun q => (hgw q).2⟩
  clear SO V0 hw hgw
  have k0 := X.out.c0
  have k1 := X.out.c1
  have k2 := X.out.c2
  have k3 := X.out.c3
  go_wp2_with fail
  clear k0 k1 k2 k3
  refine (TX.out _ (HE.out _ A1.out)).mono ?_
  rintro e v4 ⟨⟨ga, gb, gd, VA, VB, VD, rfl, h1, h2, h3, h4⟩, hb⟩
  rw [← hB0] at h1 h2 h3
  replace A1 : Hid (Below w.heap.size w v4) := A1.out.trans (hb.mono A1.out.size)
  replace X : Hid (Box4 v4 vb 45 (.slice p.a s.n p.ca) (.int .i64 s.t) (.slice p.b s.m p.cb) (.slice p.d s.l p.cd)) := X.out.below hb
  replace WR : Hid (RowE v4 1 aw gw n (inF H)) := WR.out.below (by omega) hb
  replace SU : Hid (w.heap.size < (v4).heap.size) := Nat.lt_of_lt_of_le SU.out hb.size
  clear hb
  have hb : Below v4.heap.size v4 (v4.alloc (.cells #[.slice (some ⟨ga, 0, none⟩) s.n s.n, .int .i64 s.t, .slice (some ⟨gb, 0, none⟩) s.m s.m, .slice (some ⟨gd, 0, none⟩) s.l s.l] 28)) := (Below.refl _ _).alloc (Nat.le_refl _) _
  have L2 : Hid (B0 ≤ v4.heap.size ∧ (gd < v4.heap.size ∧ ∀ j, j < s.l → VD j < v4.heap.size)) := ⟨by have := h1.1.1; have := h1.1.2; omega, h3.1.2, fun j hj => World.rowIs.lt (h3.2.2 j hj).2⟩
  have XA : Hid (RpO (v4.alloc (.cells #[.slice (some ⟨ga, 0, none⟩) s.n s.n, .int .i64 s.t, .slice (some ⟨gb, 0, none⟩) s.m s.m, .slice (some ⟨gd, 0, none⟩) s.l s.l] 28)) B0 ga s.n s.R VA) := h1.below hb
  have XB : Hid (WoO (v4.alloc (.cells #[.slice (some ⟨ga, 0, none⟩) s.n s.n, .int .i64 s.t, .slice (some ⟨gb, 0, none⟩) s.m s.m, .slice (some ⟨gd, 0, none⟩) s.l s.l] 28)) B0 gb s.m s.W VB) := h2.below hb
  have XD : Hid (RoO (v4.alloc (.cells #[.slice (some ⟨ga, 0, none⟩) s.n s.n, .int .i64 s.t, .slice (some ⟨gb, 0, none⟩) s.m s.m, .slice (some ⟨gd, 0, none⟩) s.l s.l] 28)) B0 gd s.l s.Q VD) := h3.below hb
  have OD : Hid (OrdS s ga gb gd VA VB) := h4
  have Y : Hid (Box4 (v4.alloc (.cells #[.slice (some ⟨ga, 0, none⟩) s.n s.n, .int .i64 s.t, .slice (some ⟨gb, 0, none⟩) s.m s.m, .slice (some ⟨gd, 0, none⟩) s.l s.l] 28)) v4.heap.size 28 (.slice (some ⟨ga, 0, none⟩) s.n s.n) (.int .i64 s.t) (.slice (some ⟨gb, 0, none⟩) s.m s.m) (.slice (some ⟨gd, 0, none⟩) s.l s.l)) := Box4.madeAt rfl _ _ _ _ _
  have SX : Hid (v4.heap.size < ((v4.alloc (.cells #[.slice (some ⟨ga, 0, none⟩) s.n s.n, .int .i64 s.t, .slice (some ⟨gb, 0, none⟩) s.m s.m, .slice (some ⟨gd, 0, none⟩) s.l s.l] 28))).heap.size) := by show v4.heap.size < _; simp
  clear h1 h2 h3 h4 hB0 TX
  replace A1 : Hid (Below w.heap.size w (v4.alloc (.cells #[.slice (some ⟨ga, 0, none⟩) s.n s.n, .int .i64 s.t, .slice (some ⟨gb, 0, none⟩) s.m s.m, .slice (some ⟨gd, 0, none⟩) s.l s.l] 28))) := A1.out.trans (hb.mono A1.out.size)
  replace X : Hid (Box4 (v4.alloc (.cells #[.slice (some ⟨ga, 0, none⟩) s.n s.n, .int .i64 s.t, .slice (some ⟨gb, 0, none⟩) s.m s.m, .slice (some ⟨gd, 0, none⟩) s.l s.l] 28)) vb 45 (.slice p.a s.n p.ca) (.int .i64 s.t) (.slice p.b s.m p.cb) (.slice p.d s.l p.cd)) := X.out.below hb
  replace WR : Hid (RowE (v4.alloc (.cells #[.slice (some ⟨ga, 0, none⟩) s.n s.n, .int .i64 s.t, .slice (some ⟨gb, 0, none⟩) s.m s.m, .slice (some ⟨gd, 0, none⟩) s.l s.l] 28)) 1 aw gw n (inF H)) := WR.out.below (by omega) hb
  replace SU : Hid (w.heap.size < ((v4.alloc (.cells #[.slice (some ⟨ga, 0, none⟩) s.n s.n, .int .i64 s.t, .slice (some ⟨gb, 0, none⟩) s.m s.m, .slice (some ⟨gd, 0, none⟩) s.l s.l] 28))).heap.size) := Nat.lt_of_lt_of_le SU.out hb.size
  clear hb
  go_wp2_with fail
  generalize (v4.alloc (.cells #[.slice (some ⟨ga, 0, none⟩) s.n s.n, .int .i64 s.t, .slice (some ⟨gb, 0, none⟩) s.m s.m, .slice (some ⟨gd, 0, none⟩) s.l s.l] 28)) = v5 at *
  obtain ⟨xb, hxb⟩ : ∃ x, x = v4.heap.size := ⟨_, rfl⟩
  rw [← hxb] at Y L2 SX ⊢
  clear hxb
  refine (IY.out ⟨some ⟨ga, 0, none⟩, some ⟨gb, 0, none⟩, some ⟨gd, 0, none⟩, fun j => some ⟨VA j, 0, none⟩, fun j => some ⟨VB j, 0, none⟩, fun j => some ⟨VD j, 0, none⟩, fun j => (s.R j).ne, fun j => (s.W j).ne, fun j => (s.Q j).ne, s.n, s.m, s.l⟩ _ ⟨XA.out.v, XB.out.v, XD.out.v⟩).mono ?_
  rintro e v6 ⟨⟨ag, kg, gg, rfl, hg, hgg⟩, hb⟩
  replace A1 : Hid (Below w.heap.size w v6) := A1.out.trans (hb.mono A1.out.size)
  replace X : Hid (Box4 v6 vb 45 (.slice p.a s.n p.ca) (.int .i64 s.t) (.slice p.b s.m p.cb) (.slice p.d s.l p.cd)) := X.out.below hb
  replace WR : Hid (RowE v6 1 aw gw n (inF H)) := WR.out.below (by omega) hb
  replace XA : Hid (RpO v6 B0 ga s.n s.R VA) := XA.out.below hb
  replace XB : Hid (WoO v6 B0 gb s.m s.W VB) := XB.out.below hb
  replace XD : Hid (RoO v6 B0 gd s.l s.Q VD) := XD.out.below hb
  replace Y : Hid (Box4 v6 xb 28 (.slice (some ⟨ga, 0, none⟩) s.n s.n) (.int .i64 s.t) (.slice (some ⟨gb, 0, none⟩) s.m s.m) (.slice (some ⟨gd, 0, none⟩) s.l s.l)) := Y.out.below hb
  replace SU : Hid (w.heap.size < (v6).heap.size) := Nat.lt_of_lt_of_le SU.out hb.size
  clear hb
  have L3 : Hid (0 < n → xb < gg) := fun q => by have := (hgg q).1; have := SX.out; omega
  have GR : Hid (RowE v6 1 ag gg n (inF H)) := hg
  clear hg hgg SX
  have S6 : Hid (xb ≤ v6.heap.size) := Nat.le_of_lt Y.out.lt
  go_wp2_with fail
  refine (EI.out _ _ _ _ _ GR.out.els WR.out.els).mono ?_
  rintro e v7 ⟨rfl, hb⟩
  clear S6
  replace A1 : Hid (Below w.heap.size w v7) := A1.out.trans (hb.mono A1.out.size)
  replace X : Hid (Box4 v7 vb 45 (.slice p.a s.n p.ca) (.int .i64 s.t) (.slice p.b s.m p.cb) (.slice p.d s.l p.cd)) := X.out.below hb
  replace WR : Hid (RowE v7 1 aw gw n (inF H)) := WR.out.below (by omega) hb
  replace XA : Hid (RpO v7 B0 ga s.n s.R VA) := XA.out.below hb
  replace XB : Hid (WoO v7 B0 gb s.m s.W VB) := XB.out.below hb
  replace XD : Hid (RoO v7 B0 gd s.l s.Q VD) := XD.out.below hb
  replace Y : Hid (Box4 v7 xb 28 (.slice (some ⟨ga, 0, none⟩) s.n s.n) (.int .i64 s.t) (.slice (some ⟨gb, 0, none⟩) s.m s.m) (.slice (some ⟨gd, 0, none⟩) s.l s.l)) := Y.out.below hb
  replace GR : Hid (RowE v7 1 ag gg n (inF H)) := GR.out.below (by omega) hb
  replace SU : Hid (w.heap.size < (v7).heap.size) := Nat.lt_of_lt_of_le SU.out hb.size
  clear hb
  go_wp2_with fail
  have H_ : Below v7.heap.size v7 v7.drew := (Below.refl _ _).drew
  refine wp_region_noPanic ?_
  refine wp_region_held_drew (S := fun w' => Below v7.heap.size v7 w') (by kernel_rfl) H_ (fun _ => ?_)
  generalize v7.drew = x0 at *
  refine wpAnyH_take (i := 0) (v := .agg #[.slice (some ⟨ga, 0, none⟩) s.n s.n, .int .i64 s.t, .slice (some ⟨gb, 0, none⟩) s.m s.m, .slice (some ⟨gd, 0, none⟩) s.l s.l]) rfl (by kernel_rfl) (by kernel_rfl) (by kernel_rfl) (fun _ _ _ h => h) (Or.inl ⟨by rfl, ?_⟩) H_ ?_
  · intro w' hSw; have k0 := (Y.out.below hSw).c0; have k1 := (Y.out.below hSw).c1; have k2 := (Y.out.below hSw).c2; have k3 := (Y.out.below hSw).c3; clear hSw; go_simp
  change wpAnyH _ _ _ _ _ _ _ { tmps := #[_, _, _, _, _, _, _, _, _, _, _, _, _, _, _, _, _, _, _, _, _, _, _, _, _, _, _, _, _, _, _, _, _, _, _, _, _, _, _, _, _, _, _, _, _, _, _, _, _, _, _, _, _, _, _, _, _, _, _, _, _, _, _, _, _, _, _, _, _, _, _, _, _, _, _, _, _, _, _, _, _, _, _, _, _, _, _, _, _, _, _, _, _, _, _, _, _, _, _, _, _], defers := _ } _
  refine wpAnyH_take (i := 1) (v := .agg #[.slice p.a s.n p.ca, .int .i64 s.t, .slice p.b s.m p.cb, .slice p.d s.l p.cd]) rfl (by kernel_rfl) (by kernel_rfl) (by kernel_rfl) (fun _ _ _ h => h) (Or.inl ⟨by rfl, ?_⟩) H_ ?_
  · intro w' hSw; have k0 := (X.out.below hSw).c0; have k1 := (X.out.below hSw).c1; have k2 := (X.out.below hSw).c2; have k3 := (X.out.below hSw).c3; clear hSw; go_simp
  change wpAnyH _ _ _ _ _ _ _ { tmps := #[_, _, _, _, _, _, _, _, _, _, _, _, _, _, _, _, _, _, _, _, _, _, _, _, _, _, _, _, _, _, _, _, _, _, _, _, _, _, _, _, _, _, _, _, _, _, _, _, _, _, _, _, _, _, _, _, _, _, _, _, _, _, _, _, _, _, _, _, _, _, _, _, _, _, _, _, _, _, _, _, _, _, _, _, _, _, _, _, _, _, _, _, _, _, _, _, _, _, _, _, _], defers := _ } _
  refine wpAnyH_ready (rs := [2]) (by kernel_rfl) (by simp) ?_
  refine AllReadyH.cons rfl (fun KK hK => ?_) AllReadyH.nil
  go_simp
  refine (TO.out _ (HE.out _ (A1.out.trans (H_.mono A1.out.size)))).mono ?_
  rintro e x1 ⟨⟨q2, rfl, hv⟩, hb⟩
  replace H_ : Below v7.heap.size v7 x1 := H_.trans (hb.mono H_.size)
  have V2 : Hid (SvV x1 s q2) := hv
  clear hv
  clear hb
  refine hK.out _ _ H_ (fun _ => ?_)
  clear hK KK
  change wpAnyH _ _ _ _ _ _ _ { tmps := #[_, _, _, _, _, _, _, _, _, _, _, _, _, _, _, _, _, _, _, _, _, _, _, _, _, _, _, _, _, _, _, _, _, _, _, _, _, _, _, _, _, _, _, _, _, _, _, _, _, _, _, _, _, _, _, _, _, _, _, _, _, _, _, _, _, _, _, _, _, _, _, _, _, _, _, _, _, _, _, _, _, _, _, _, _, _, _, _, _, _, _, _, _, _, _, _, _, _, _, _, _], defers := _ } _
  refine wpAnyH_ready (rs := [3]) (by kernel_rfl) (by simp) ?_
  refine AllReadyH.cons rfl (fun KK hK => ?_) AllReadyH.nil
  go_simp
  refine (EQ.out ⟨some ⟨ga, 0, none⟩, some ⟨gb, 0, none⟩, some ⟨gd, 0, none⟩, fun j => some ⟨VA j, 0, none⟩, fun j => some ⟨VB j, 0, none⟩, fun j => some ⟨VD j, 0, none⟩, fun j => (s.R j).ne, fun j => (s.W j).ne, fun j => (s.Q j).ne, s.n, s.m, s.l⟩ q2 _ (SvV.below ⟨XA.out.v, XB.out.v, XD.out.v⟩ H_) V2.out).mono ?_
  rintro e x2 ⟨rfl, hb⟩
  replace H_ : Below v7.heap.size v7 x2 := H_.trans (hb.mono H_.size)
  clear hb
  refine hK.out _ _ H_ (fun _ => ?_)
  clear hK KK
  change wpAnyH _ _ _ _ _ _ _ { tmps := #[_, _, _, _, _, _, _, _, _, _, _, _, _, _, _, _, _, _, _, _, _, _, _, _, _, _, _, _, _, _, _, _, _, _, _, _, _, _, _, _, _, _, _, _, _, _, _, _, _, _, _, _, _, _, _, _, _, _, _, _, _, _, _, _, _, _, _, _, _, _, _, _, _, _, _, _, _, _, _, _, _, _, _, _, _, _, _, _, _, _, _, _, _, _, _, _, _, _, _, _, _], defers := _ } _
  refine wpAnyH_take (i := 4) (v := .bool false) rfl (by kernel_rfl) (by kernel_rfl) (by kernel_rfl) (fun _ _ _ h => h) (Or.inl ⟨by rfl, ?_⟩) H_ ?_
  · intro w' hSw; clear hSw; go_simp
  change wpAnyH _ _ _ _ _ _ _ { tmps := #[_, _, _, _, _, _, _, _, _, _, _, _, _, _, _, _, _, _, _, _, _, _, _, _, _, _, _, _, _, _, _, _, _, _, _, _, _, _, _, _, _, _, _, _, _, _, _, _, _, _, _, _, _, _, _, _, _, _, _, _, _, _, _, _, _, _, _, _, _, _, _, _, _, _, _, _, _, _, _, _, _, _, _, _, _, _, _, _, _, _, _, _, _, _, _, _, _, _, _, _, _], defers := _ } _
  refine wpAnyH_done (by kernel_rfl) ?_ _
  refine NoPanic.normal ?_
  generalize x2 = v8 at *
  have hb : Below v7.heap.size v7 v8 := H_
  clear H_ V2 EQ
  replace A1 : Hid (Below w.heap.size w v8) := A1.out.trans (hb.mono A1.out.size)
  replace X : Hid (Box4 v8 vb 45 (.slice p.a s.n p.ca) (.int .i64 s.t) (.slice p.b s.m p.cb) (.slice p.d s.l p.cd)) := X.out.below hb
  replace WR : Hid (RowE v8 1 aw gw n (inF H)) := WR.out.below (by omega) hb
  replace XA : Hid (RpO v8 B0 ga s.n s.R VA) := XA.out.below hb
  replace XB : Hid (WoO v8 B0 gb s.m s.W VB) := XB.out.below hb
  replace XD : Hid (RoO v8 B0 gd s.l s.Q VD) := XD.out.below hb
  replace Y : Hid (Box4 v8 xb 28 (.slice (some ⟨ga, 0, none⟩) s.n s.n) (.int .i64 s.t) (.slice (some ⟨gb, 0, none⟩) s.m s.m) (.slice (some ⟨gd, 0, none⟩) s.l s.l)) := Y.out.below hb
  replace GR : Hid (RowE v8 1 ag gg n (inF H)) := GR.out.below (by omega) hb
  replace SU : Hid (w.heap.size < (v8).heap.size) := Nat.lt_of_lt_of_le SU.out hb.size
  clear hb
  have S8 : Hid (xb ≤ v8.heap.size) := Nat.le_of_lt Y.out.lt
  have k0 := Y.out.c0
  have k1 := Y.out.c1
  have k2 := Y.out.c2
  have k3 := Y.out.c3
  go_wp2_with fail
  clear k0 k1 k2 k3
  refine (MK.out ga gb gd B0 xb VA VB VD _ XA.out XB.out XD.out OD.out L2.out.2 S8.out).mono ?_
  rintro e v9 ⟨⟨km, rfl⟩, hM⟩
  have hl1 := L1.out
  have hl2 := L2.out
  have hvb := VBH.out
  replace A1 : Hid (Below w.heap.size w v9) := A1.out.trans ((hM.toBelow (by have := S8.out; omega)).mono (by omega))
  replace X : Hid (Box4 v9 vb 45 (.slice p.a s.n p.ca) (.int .i64 s.t) (.slice p.b s.m p.cb) (.slice p.d s.l p.cd)) := X.out.ofBlock (hM.block _ X.out.lt (.inl (by omega)))
  replace WR : Hid (RowE v9 1 aw gw n (inF H)) := WR.out.ofBlock (fun q => hM.block _ (WR.out.lt (by omega) q) (.inl (by have := hl1.2 q; omega)))
  replace GR : Hid (RowE v9 1 ag gg n (inF H)) := GR.out.ofBlock (fun q => hM.block _ (GR.out.lt (by omega) q) (.inr (by have := L3.out q; omega)))
  replace SU : Hid (w.heap.size < v9.heap.size) := Nat.lt_of_lt_of_le SU.out hM.size
  have GW : Hid (0 < n → gw ≠ gg) := fun q => by have := L3.out q; have := hl1.2 q; omega
  have GX : Hid (0 < n → vb ≠ gg) := fun q => by have := L3.out q; omega
  have GB : Hid (0 < n → w.heap.size ≤ gg) := fun q => by have := L3.out q; omega
  have km0 : ¬ (km : Int) < 0 := by omega
  clear hM hl1 hl2 hvb XA XB XD OD Y MK L1 L2 L3 S8 VBH
  go_wp2_with fail
  refine (EI.out _ _ _ _ _ GR.out.els WR.out.els).mono ?_
  rintro e v10 ⟨rfl, hb⟩
  clear km0
  replace A1 : Hid (Below w.heap.size w v10) := A1.out.trans (hb.mono A1.out.size)
  replace X : Hid (Box4 v10 vb 45 (.slice p.a s.n p.ca) (.int .i64 s.t) (.slice p.b s.m p.cb) (.slice p.d s.l p.cd)) := X.out.below hb
  replace WR : Hid (RowE v10 1 aw gw n (inF H)) := WR.out.below (by omega) hb
  replace GR : Hid (RowE v10 1 ag gg n (inF H)) := GR.out.below (by omega) hb
  replace SU : Hid (w.heap.size < (v10).heap.size) := Nat.lt_of_lt_of_le SU.out hb.size
  clear hb
  go_wp2_with fail
  refine (MI.out _ gg _ _ GR.out).mono ?_
  rintro e v11 ⟨rfl, hr, ht⟩
  have GJ : Hid (RowE v11 1 ag gg n (inF (mkC 1))) := hr
  replace X : Hid (Box4 v11 vb 45 (.slice p.a s.n p.ca) (.int .i64 s.t) (.slice p.b s.m p.cb) (.slice p.d s.l p.cd)) := X.out.ofBlock (ht.block X.out.lt GX.out)
  replace WR : Hid (RowE v11 1 aw gw n (inF H)) := WR.out.turned (by omega) ht (fun q _ => GW.out q)
  replace A1 : Hid (Below w.heap.size w v11) := A1.out.trans (by
    rcases Nat.eq_zero_or_pos n with e | e
    · exact (ht.2 e).mono A1.out.size
    · exact ht.1.toBelow (GB.out e) A1.out.size)
  replace SU : Hid (w.heap.size < v11.heap.size) := Nat.lt_of_lt_of_le SU.out ht.1.size
  clear hr ht GR MI GW GX GB
  go_wp2_with fail
  refine (HI.out _ _ _ GJ.out.els).mono ?_
  rintro e v12 ⟨rfl, hb⟩
  replace A1 : Hid (Below w.heap.size w v12) := A1.out.trans (hb.mono A1.out.size)
  replace X : Hid (Box4 v12 vb 45 (.slice p.a s.n p.ca) (.int .i64 s.t) (.slice p.b s.m p.cb) (.slice p.d s.l p.cd)) := X.out.below hb
  replace WR : Hid (RowE v12 1 aw gw n (inF H)) := WR.out.below (by omega) hb
  replace GJ : Hid (RowE v12 1 ag gg n (inF (mkC 1))) := GJ.out.below (by omega) hb
  replace SU : Hid (w.heap.size < (v12).heap.size) := Nat.lt_of_lt_of_le SU.out hb.size
  clear hb
  have k0 := X.out.c0
  have k1 := X.out.c1
  have k2 := X.out.c2
  have k3 := X.out.c3
  go_wp2_with fail
  clear k0 k1 k2 k3
  refine (TO.out _ (HE.out _ A1.out)).mono ?_
  rintro e v13 ⟨⟨q3, rfl, hv⟩, hb⟩
  have V3 : Hid (SvV v13 s q3) := hv
  clear hv
  replace A1 : Hid (Below w.heap.size w v13) := A1.out.trans (hb.mono A1.out.size)
  replace X : Hid (Box4 v13 vb 45 (.slice p.a s.n p.ca) (.int .i64 s.t) (.slice p.b s.m p.cb) (.slice p.d s.l p.cd)) := X.out.below hb
  replace WR : Hid (RowE v13 1 aw gw n (inF H)) := WR.out.below (by omega) hb
  replace GJ : Hid (RowE v13 1 ag gg n (inF (mkC 1))) := GJ.out.below (by omega) hb
  replace SU : Hid (w.heap.size < (v13).heap.size) := Nat.lt_of_lt_of_le SU.out hb.size
  clear hb
  go_wp2_with fail
  refine (IY.out q3 _ V3.out).mono ?_
  rintro e v14 ⟨⟨ah, kh, gh, rfl, hh, hgh⟩, hb⟩
  replace A1 : Hid (Below w.heap.size w v14) := A1.out.trans (hb.mono A1.out.size)
  replace X : Hid (Box4 v14 vb 45 (.slice p.a s.n p.ca) (.int .i64 s.t) (.slice p.b s.m p.cb) (.slice p.d s.l p.cd)) := X.out.below hb
  replace WR : Hid (RowE v14 1 aw gw n (inF H)) := WR.out.below (by omega) hb
  replace GJ : Hid (RowE v14 1 ag gg n (inF (mkC 1))) := GJ.out.below (by omega) hb
  replace SU : Hid (w.heap.size < (v14).heap.size) := Nat.lt_of_lt_of_le SU.out hb.size
  clear hb
  have HR : Hid (RowE v14 1 ah gh n (inF H)) := hh
  clear hh hgh V3 IY TO
  go_wp2_with fail
  refine (EI.out _ _ _ _ _ HR.out.els WR.out.els).mono ?_
  rintro e v15 ⟨rfl, hb⟩
  replace A1 : Hid (Below w.heap.size w v15) := A1.out.trans (hb.mono A1.out.size)
  replace X : Hid (Box4 v15 vb 45 (.slice p.a s.n p.ca) (.int .i64 s.t) (.slice p.b s.m p.cb) (.slice p.d s.l p.cd)) := X.out.below hb
  replace WR : Hid (RowE v15 1 aw gw n (inF H)) := WR.out.below (by omega) hb
  replace GJ : Hid (RowE v15 1 ag gg n (inF (mkC 1))) := GJ.out.below (by omega) hb
  replace SU : Hid (w.heap.size < (v15).heap.size) := Nat.lt_of_lt_of_le SU.out hb.size
  clear hb
  clear HR EI
  go_wp2_with fail
  refine (HI.out _ _ _ GJ.out.els).mono ?_
  rintro e v16 ⟨rfl, hb⟩
  replace A1 : Hid (Below w.heap.size w v16) := A1.out.trans (hb.mono A1.out.size)
  replace X : Hid (Box4 v16 vb 45 (.slice p.a s.n p.ca) (.int .i64 s.t) (.slice p.b s.m p.cb) (.slice p.d s.l p.cd)) := X.out.below hb
  replace WR : Hid (RowE v16 1 aw gw n (inF H)) := WR.out.below (by omega) hb
  replace GJ : Hid (RowE v16 1 ag gg n (inF (mkC 1))) := GJ.out.below (by omega) hb
  replace SU : Hid (w.heap.size < (v16).heap.size) := Nat.lt_of_lt_of_le SU.out hb.size
  clear hb
  clear HI GJ WR X SU HE
  go_wp2
  go_ret
  exact ⟨rfl, A1.out⟩
end Go.Proofs.Ytpljdlgjeeikkab
