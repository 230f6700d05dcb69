/-
  What CallFiles answers.
-/
import Derived.Test.YtgcdoabcopihlaaGreatE09
import Derived.Test.YtgcdoabcopihlaaGreatE01
import Derived.Test.YtgcdoabcopihlaaGreatE12
import Derived.Test.YtgcdoabcopihlaaGreatFileOkI
namespace Go.Proofs.YtgcdoabcopihlaaGreat
open Go.ChangeShapes Go.WideShapes Go.ChangeAt Go.RowKit
set_option linter.unusedVariables false
/-- More than a call may be handed. -/
def CfLong (n : Nat) (x : Fcl) : Prop := 4096 < n ∨ 65536 < x.p.size ∨ 65536 < x.o.size ∨ 65536 < x.d.size
/-- What CallFiles answers: the files, the text, the reply's code and the code. -/
def CfIs (n : Nat) (F : Nat → Fi) (x : Fcl) (m : Nat) (G : Nat → Fi) (t : ByteArray) (cd dd : Int) : Prop :=
  (CfLong n x ∧ m = 0 ∧ t = ⟨#[]⟩ ∧ cd = 0 ∧ dd = 2) ∨ (¬ CfLong n x ∧ ((¬ FsOk n F ∧ m = 0 ∧ t = ⟨#[]⟩ ∧ cd = 0 ∧ dd = 1) ∨ (FsOk n F ∧ dd = 0 ∧ CfP n F x m G t cd)))
/-- The answer as values: the files are the call's own. -/
def RetCf (n : Nat) (F : Nat → Fi) (x : Fcl) (B : Nat) (e : Ending) (w : World) : Prop :=
  ∃ (a : Option Addr) (m c : Nat) (G : Nat → Fi) (t : ByteArray) (cd dd : Int), CfIs n F x m G t cd dd ∧ e = .returned (.tuple #[.slice a m c, .agg #[.int .i64 cd, .string t], .int .i64 dd]) ∧ EO w B 51 3 (.slice a m c) m (fiF G)
theorem CfIs.uniq {n : Nat} {F : Nat → Fi} {x : Fcl} {m m' : Nat} {G G' : Nat → Fi} {t t' : ByteArray} {c c' d d' : Int} (hu : FsOk n F → ∀ {m m' G G' c c'}, MkP n F x.p m G c → MkP n F x.p m' G' c' → m = m' ∧ c = c' ∧ ∀ i, i < m → G i = G' i) (hr : FsOk n F → ∀ {m m' G G' c c'}, RmP n F x.p m G c → RmP n F x.p m' G' c' → m = m' ∧ c = c' ∧ ∀ i, i < m → G i = G' i) (hv : FsOk n F → ∀ {m m' G G' c c'}, MvP n F x.p x.o m G c → MvP n F x.p x.o m' G' c' → m = m' ∧ c = c' ∧ ∀ i, i < m → G i = G' i)
    (h : CfIs n F x m G t c d) (h' : CfIs n F x m' G' t' c' d') : m = m' ∧ t = t' ∧ c = c' ∧ d = d' ∧ ∀ i, i < m → G i = G' i := by
  rcases h with ⟨a, rfl, rfl, rfl, rfl⟩ | ⟨a, ⟨b, rfl, rfl, rfl, rfl⟩ | ⟨b, rfl, h⟩⟩ <;> rcases h' with ⟨a', rfl, rfl, rfl, rfl⟩ | ⟨a', ⟨b', rfl, rfl, rfl, rfl⟩ | ⟨b', rfl, h'⟩⟩
  · exact ⟨rfl, rfl, rfl, rfl, fun i hi => absurd hi (by omega)⟩
  · exact absurd a a'
  · exact absurd a a'
  · exact absurd a' a
  · exact ⟨rfl, rfl, rfl, rfl, fun i hi => absurd hi (by omega)⟩
  · exact absurd b' b
  · exact absurd a' a
  · exact absurd b b'
  · obtain ⟨h1, h2, h3, h4⟩ := CfP.uniq b (hu b) (hr b) (hv b) h h'
    exact ⟨h1, h2, h3, rfl, h4⟩
end Go.Proofs.YtgcdoabcopihlaaGreat

/-
  CallFiles of the program.
-/
namespace Go.Proofs.YtgcdoabcopihlaaGreat
open Go.ChangeShapes Go.WideShapes Go.ChangeAt Go.RowKit
set_option linter.unusedVariables false
theorem ret_tct {P : Program} {fn : Func} {p u u2 : Tmp} {ty : TypeId} {tmps : Array Value} {w : World} {b : Nat} {v x y : Value} {Post : Ending → World → Prop} (h : fn.results = #[.tmp u, .cell p ty, .tmp u2]) (hp : tmps.getD p undef = .pointer (some ⟨b, 0, none⟩)) (hu : tmps.getD u undef = x) (hu2 : tmps.getD u2 undef = y) (hl : (loadVar ty ⟨b, 0, none⟩).run P w = .ok v w) (hq : Post (.returned (.tuple #[x, v, y])) w) : bodyPost P fn Post .ret { tmps := tmps, defers := [] } w := by
  refine bodyPost_ret (v := .tuple #[x, v, y]) ?_ rfl hq
  simp only [Array.getD_eq_getD_getElem?] at hp hu hu2
  unfold results
  rw [h]
  simp [hp, hu, hu2, asAddr, hl, Result.andThen]
theorem EO.notBoxC {w : World} {B : Nat} {e : TypeId} {s : Nat} {v : Value} {n : Nat} {F : Nat → Nat → Value} (h : EO w B e s v n F) {p : Nat} {t : TypeId} {x y : Value} (hp : Box2 w p t x y) (ht : t ≠ e) : v.ownBlock ≠ some p := fun hg => by
  obtain ⟨hl, ⟨h1, _⟩ | ⟨g', cap, cur, hv, _, hh, _⟩⟩ := h
  · rw [h1] at hg; cases hg
  · rw [hv] at hg
    have q2 : g' = p := Option.some.inj hg
    obtain ⟨c, hc, _⟩ := hp
    rw [q2, hc] at hh
    cases hh
    exact ht rfl
/-- What the closure leaves behind: the files' variable and the files. -/
def CloP (n : Nat) (F : Nat → Fi) (x : Fcl) (B q : Nat) (W : World) (t : ByteArray) (cd : Int) (W' : World) : Prop :=
  ∃ (a : Option Addr) (m c : Nat) (G : Nat → Fi), Bx1 W' q (.slice a m c) ∧ EO W' B 51 3 (.slice a m c) m (fiF G) ∧ CfP n F x m G t cd ∧ OnlyB q W W' ∧ (∀ g, (Value.slice a m c).ownBlock = some g → g ≠ q)
set_option maxRecDepth 100000 in
set_option maxHeartbeats 4000000 in
theorem cfClo_any (q1 q7 : Nat) (a : Option Addr) (n c : Nat) (F : Nat → Fi) (x : Fcl) (B : Nat) (hF : FsOk n F) (hp : x.p.size ≤ 65536) (ho : x.o.size ≤ 65536) (hd : x.d.size ≤ 65536) (hsl : SlP a n c) (W : World) (hX : FclB W q1 x) (hN : Bx1 W q7 (.slice a n c)) (hE : EO W B 51 3 (.slice a n c) n (fiF F)) (hq : B ≤ q7) (hne : ∀ g, (Value.slice a n c).ownBlock = some g → g ≠ q7) :
    Calls Tryz.prog 25 #[.pointer (some ⟨q1, 0, none⟩), .pointer (some ⟨q7, 0, none⟩)] W fun e W' => (∃ t, e = .returned (.string t) ∧ CloP n F x B q7 W t 0 W') ∨ (∃ cd, e = endP cd ∧ CloP n F x B q7 W ⟨#[]⟩ cd W') := by
  have ON : Hid (Calls Tryz.prog 26 #[.agg #[.int .i64 x.k, .int .i64 x.a, .int .i64 x.n, .string x.p, .string x.o, .string x.d], .slice a n c] W fun e w' => RetOn n F x a c W.heap.size e w' ∧ Below W.heap.size W w') := on_all a n c F x hF hp ho hd hsl W hE.els
  have HN : Hid (Bx1 W q7 (.slice a n c)) := hN
  have HE : Hid (EO W B 51 3 (.slice a n c) n (fiF F)) := hE
  have HQ : Hid (B ≤ q7 ∧ q7 < W.heap.size) := ⟨hq, hN.lt⟩
  have HNE : Hid (∀ g, (Value.slice a n c).ownBlock = some g → g ≠ q7) := hne
  obtain ⟨x0, x1, x2, x3, x4, x5⟩ := hX.c
  have n0 := hN.1
  obtain ⟨xk, xa, xn, xp, xo, xd⟩ := x
  dsimp only at *
  clear hF hp ho hd hsl hX hN hE hq hne
  go_enter Tryz.func25, Tryz.ntmps25
  go_wp2_with fail
  refine (Calls.mono ON.out) ?_
  rintro e W1 ⟨⟨a', m, c', G, t, rfl, hE', hC⟩ | ⟨cd, hcd, rfl, hC⟩, hb⟩
  · have HC : Hid (CfP n F ⟨xk, xa, xn, xp, xo, xd⟩ m G t 0) := hC
    have HB : Hid (Below W.heap.size W W1) := hb
    have HN1 : Hid (Bx1 W1 q7 (.slice a n c)) := HN.out.below hb
    have HE1 : Hid (EO W1 B 51 3 (.slice a' m c') m (fiF G) ∧ (∀ g, (Value.slice a' m c').ownBlock = some g → g ≠ q7)) := by
      rcases hE' with h | ⟨rfl, rfl, rfl, rfl⟩
      · exact ⟨h.mono (by have := HQ.out; omega), fun g e e2 => by have := (h.ge g e).1; have := HQ.out; omega⟩
      · exact ⟨HE.out.below hb, HNE.out⟩
    have f0 := HN1.out.2
    have n1 := HN1.out.1
    clear hE' hC hb x0 x1 x2 x3 x4 x5 n0 ON
    go_wp2
    go_ret
    refine .inl ⟨t, rfl, a', m, c', G, HN1.out.set _, ?_, HC.out, ((OnlyB.refl _ _).below HB.out).setCell _ _, HE1.out.2⟩
    exact HE1.out.1.keep (fun g e => Below.heap_setCell W1 ⟨q7, 0, none⟩ _ g (HE1.out.2 g e))
  · have HC : Hid (CfP n F ⟨xk, xa, xn, xp, xo, xd⟩ n F ⟨#[]⟩ cd) := hC
    have HB : Hid (Below W.heap.size W W1) := hb
    clear hC hb x0 x1 x2 x3 x4 x5 n0 ON hcd
    unfold endP
    go_wp2
    refine ⟨rfl, .inr ⟨cd, rfl, a, n, c, F, HN.out.below HB.out, HE.out.below HB.out, HC.out, (OnlyB.refl _ _).below HB.out, HNE.out⟩⟩
set_option maxRecDepth 100000 in
set_option maxHeartbeats 2000000 in
theorem isLongCall_any (x : Fcl) (w : World) :
    Calls Tryz.prog 22 #[.agg #[.int .i64 x.k, .int .i64 x.a, .int .i64 x.n, .string x.p, .string x.o, .string x.d]] w fun e w' => Says e (65536 < x.p.size ∨ 65536 < x.o.size ∨ 65536 < x.d.size) ∧ Below w.heap.size w w' := by
  have LY : Hid (∀ (t : ByteArray) (w : World), 65536 < t.size → Calls Tryz.prog 48 #[.string t] w fun e w' => e = .returned (.bool true) ∧ w' = w) := fun t w h => (isLong_any t w).mono fun e w' q => ⟨by rw [q.1]; simp; omega, q.2⟩
  have LN : Hid (∀ (t : ByteArray) (w : World), ¬ 65536 < t.size → Calls Tryz.prog 48 #[.string t] w fun e w' => e = .returned (.bool false) ∧ w' = w) := fun t w h => (isLong_any t w).mono fun e w' q => ⟨by rw [q.1]; simp; omega, q.2⟩
  obtain ⟨xk, xa, xn, xp, xo, xd⟩ := x
  dsimp only
  have A1 : Hid (Below w.heap.size w (w.alloc (.cells #[.int .i64 xk, .int .i64 xa, .int .i64 xn, .string xp, .string xo, .string xd] 26))) := (Below.refl _ _).alloc (Nat.le_refl _) _
  by_cases h1 : 65536 < xp.size
  · have HR : Hid (65536 < xp.size ∨ 65536 < xo.size ∨ 65536 < xd.size) := .inl h1
    have L1 : Hid (∀ w, Calls Tryz.prog 48 #[.string xp] w fun e w' => e = .returned (.bool true) ∧ w' = w) := fun w => LY.out xp w h1
    clear h1 LY LN
    go_enter Tryz.func22, Tryz.ntmps22
    go_wp2_with fail
    refine (Calls.mono (L1.out _)) ?_
    rintro e _ ⟨rfl, rfl⟩
    go_wp2
    go_ret
    exact ⟨⟨true, rfl, ⟨fun _ => HR.out, fun _ => rfl⟩⟩, A1.out⟩
  · have L1 : Hid (∀ w, Calls Tryz.prog 48 #[.string xp] w fun e w' => e = .returned (.bool false) ∧ w' = w) := fun w => LN.out xp w h1
    by_cases h2 : 65536 < xo.size
    · have HR : Hid (65536 < xp.size ∨ 65536 < xo.size ∨ 65536 < xd.size) := .inr (.inl h2)
      have L2 : Hid (∀ w, Calls Tryz.prog 48 #[.string xo] w fun e w' => e = .returned (.bool true) ∧ w' = w) := fun w => LY.out xo w h2
      clear h1 h2 LY LN
      go_enter Tryz.func22, Tryz.ntmps22
      go_wp2_with fail
      refine (Calls.mono (L1.out _)) ?_
      rintro e _ ⟨rfl, rfl⟩
      go_wp2_with fail
      refine (Calls.mono (L2.out _)) ?_
      rintro e _ ⟨rfl, rfl⟩
      go_wp2
      go_ret
      exact ⟨⟨true, rfl, ⟨fun _ => HR.out, fun _ => rfl⟩⟩, A1.out⟩
    · have L2 : Hid (∀ w, Calls Tryz.prog 48 #[.string xo] w fun e w' => e = .returned (.bool false) ∧ w' = w) := fun w => LN.out xo w h2
      obtain ⟨y, hy, L3⟩ : ∃ y : Bool, (y = true ↔ 65536 < xd.size) ∧ Hid (∀ w, Calls Tryz.prog 48 #[.string xd] w fun e w' => e = .returned (.bool y) ∧ w' = w) := by
        by_cases h3 : 65536 < xd.size
        · exact ⟨true, ⟨fun _ => h3, fun _ => rfl⟩, fun w => LY.out xd w h3⟩
        · exact ⟨false, ⟨(fun e => by cases e), (fun e => absurd e h3)⟩, fun w => LN.out xd w h3⟩
      have HR : Hid (y = true ↔ (65536 < xp.size ∨ 65536 < xo.size ∨ 65536 < xd.size)) := ⟨fun e => .inr (.inr (hy.1 e)), fun q => q.elim (fun z => absurd z h1) (fun q => q.elim (fun z => absurd z h2) hy.2)⟩
      clear h1 h2 LY LN hy
      go_enter Tryz.func22, Tryz.ntmps22
      go_wp2_with fail
      refine (Calls.mono (L1.out _)) ?_
      rintro e _ ⟨rfl, rfl⟩
      go_wp2_with fail
      refine (Calls.mono (L2.out _)) ?_
      rintro e _ ⟨rfl, rfl⟩
      go_wp2_with fail
      refine (Calls.mono (L3.out _)) ?_
      rintro e _ ⟨rfl, rfl⟩
      go_wp2
      go_ret
      exact ⟨⟨y, rfl, HR.out⟩, A1.out⟩
set_option maxRecDepth 100000 in
set_option maxHeartbeats 8000000 in
theorem implCf_any (a : Option Addr) (n c : Nat) (F : Nat → Fi) (x : Fcl) (hsz : ∀ i, i < n → (F i).p.size ≤ 1048576) (hsl : SlP a n c) (w : World) (h : Els w 3 a n (fiF F)) :
    Calls Tryz.prog 7 #[.slice a n c, .agg #[.int .i64 x.k, .int .i64 x.a, .int .i64 x.n, .string x.p, .string x.o, .string x.d]] w fun e w' => RetCf n F x w.heap.size e w' ∧ Below w.heap.size w w' := by
  have HS : Hid (SlP a n c) := hsl
  have HSZ : Hid (∀ i, i < n → (F i).p.size ≤ 1048576) := hsz
  have LC : Hid (∀ u : World, Calls Tryz.prog 22 #[.agg #[.int .i64 x.k, .int .i64 x.a, .int .i64 x.n, .string x.p, .string x.o, .string x.d]] u fun e w' => Says e (65536 < x.p.size ∨ 65536 < x.o.size ∨ 65536 < x.d.size) ∧ Below u.heap.size u w') := fun u => isLongCall_any x u
  obtain ⟨V1, hV1⟩ : ∃ V, V = ((w.alloc (.cells #[.int .i64 x.k, .int .i64 x.a, .int .i64 x.n, .string x.p, .string x.o, .string x.d] 26)).alloc (.cells #[.int .i64 0, .string ⟨#[]⟩] 29)) := ⟨_, rfl⟩
  have W1 : Below w.heap.size w V1 := by rw [hV1]; exact ((Below.refl _ _).alloc (Nat.le_refl _) _).alloc (by simp) _
  have XB : Hid (FclB V1 w.heap.size x) := by
    show FclB _ _ _
    rw [hV1]
    exact (FclB.madeOf (x := x) rfl).ofBlock (((Below.refl _ (w.alloc (.cells #[.int .i64 x.k, .int .i64 x.a, .int .i64 x.n, .string x.p, .string x.o, .string x.d] 26))).alloc (Nat.le_refl _) _).block _ (by simp))
  have RB : Hid (Box2 V1 (w.heap.size + 1) 29 (.int .i64 0) (.string ⟨#[]⟩)) := by
    show Box2 _ _ _ _ _
    rw [hV1]
    exact Box2.madeAt (by simp) _ _ _
  have A1 : Hid (Below w.heap.size w V1) := W1
  have H : Hid (Els V1 3 a n (fiF F)) := h.below W1
  have HV : Hid (((w.alloc (.cells #[.int .i64 x.k, .int .i64 x.a, .int .i64 x.n, .string x.p, .string x.o, .string x.d] 26)).alloc (.cells #[.int .i64 0, .string ⟨#[]⟩] 29)) = V1) := hV1.symm
  have hmf : ∀ (fn : Fn) (first cap : Array Value) (w : World), (Instr.makeFunc fn first cap).run Tryz.prog w = .ok (.func fn first cap) w := fun _ _ _ _ => rfl
  clear h hsz hsl W1 hV1
  go_enter Tryz.func7, Tryz.ntmps7
  go_upto_region 1 with fail
  rw [HV.out]
  obtain ⟨q1, hq1⟩ : ∃ q, q = w.heap.size := ⟨_, rfl⟩
  obtain ⟨q2, hq2⟩ : ∃ q, q = w.heap.size + 1 := ⟨_, rfl⟩
  have HG : Hid (w.heap.size ≤ q1 ∧ w.heap.size ≤ q2) := ⟨by omega, by omega⟩
  rw [← hq2] at RB ⊢
  rw [← hq1] at XB ⊢
  clear hq1 hq2 HV
  have BAD : Hid (∀ (v : World) (dd : Int), Below w.heap.size w v → (∀ G, CfIs n F x 0 G ⟨#[]⟩ 0 dd) → RetCf n F x w.heap.size (.returned (.tuple #[.slice none 0 0, .agg #[.int .i64 0, .string ⟨#[]⟩], .int .i64 dd])) v ∧ Below w.heap.size w v) := fun v dd hb hC => ⟨⟨none, 0, 0, F, ⟨#[]⟩, 0, dd, hC F, rfl, EO.nil _ _ _ _ _⟩, hb⟩
  have LONG : Hid (CfLong n x → ∀ G, CfIs n F x 0 G ⟨#[]⟩ 0 2) := fun q G => .inl ⟨q, rfl, rfl, rfl, rfl⟩
  by_cases h4 : 4096 < n
  · have g4 : (4096 : Int) < (n : Int) := by omega
    have HL : Hid (∀ G, CfIs n F x 0 G ⟨#[]⟩ 0 2) := LONG.out (.inl h4)
    have k0 := RB.out.c0
    have k1 := RB.out.c1
    have f0 := RB.out.fr 0
    have f1 := RB.out.fr 1
    clear h4 LONG XB H
    go_wp2
    exact ret_tct (b := q2) (v := .agg #[.int .i64 0, .string ⟨#[]⟩]) Tryz.results7 rfl rfl rfl (RB.out.vr 0 ⟨#[]⟩).loadVr (BAD.out _ _ (vr_below A1.out HG.out.2 _ _) HL.out)
  · have g4 : ¬ (4096 : Int) < (n : Int) := by omega
    obtain ⟨x0, x1, x2, x3, x4, x5⟩ := XB.out.c
    go_wp2_with fail
    refine (Calls.mono (LC.out V1)) ?_
    rintro e v2 ⟨⟨y, rfl, hy⟩, hb⟩
    have HY : Hid (y = true ↔ (65536 < x.p.size ∨ 65536 < x.o.size ∨ 65536 < x.d.size)) := hy
    clear x0 x1 x2 x3 x4 x5 hy LC
    replace XB : Hid (FclB v2 q1 x) := XB.out.below hb
    replace RB : Hid (Box2 v2 q2 29 (.int .i64 0) (.string ⟨#[]⟩)) := RB.out.below hb
    replace H : Hid (Els v2 3 a n (fiF F)) := H.out.below hb
    replace A1 : Hid (Below w.heap.size w v2) := A1.out.trans (hb.mono A1.out.size)
    clear hb
    cases y with
    | true =>
      have HL : Hid (∀ G, CfIs n F x 0 G ⟨#[]⟩ 0 2) := LONG.out (.inr (HY.out.1 rfl))
      have k0 := RB.out.c0
      have k1 := RB.out.c1
      have f0 := RB.out.fr 0
      have f1 := RB.out.fr 1
      clear h4 LONG XB H HY
      go_wp2
      exact ret_tct (b := q2) (v := .agg #[.int .i64 0, .string ⟨#[]⟩]) Tryz.results7 rfl rfl rfl (RB.out.vr 0 ⟨#[]⟩).loadVr (BAD.out _ _ (vr_below A1.out HG.out.2 _ _) HL.out)
    | false =>
      have NL : Hid (¬ CfLong n x) := fun q => q.elim (fun z => h4 z) (fun z => by have := HY.out.2 z; cases this)
      have HZ : Hid (x.p.size ≤ 65536 ∧ x.o.size ≤ 65536 ∧ x.d.size ≤ 65536) := by
        have h := NL.out
        unfold CfLong at h
        refine ⟨?_, ?_, ?_⟩ <;> omega
      clear HY LONG
      go_wp2_with fail
      refine (Calls.mono (implFilesOK_any a n c F HSZ.out HS.out v2 H.out)) ?_
      rintro e v3 ⟨⟨y, rfl, hy⟩, hb⟩
      have HY : Hid (y = true ↔ FsOk n F) := hy
      replace XB : Hid (FclB v3 q1 x) := XB.out.below hb
      replace RB : Hid (Box2 v3 q2 29 (.int .i64 0) (.string ⟨#[]⟩)) := RB.out.below hb
      replace H : Hid (Els v3 3 a n (fiF F)) := H.out.below hb
      replace A1 : Hid (Below w.heap.size w v3) := A1.out.trans (hb.mono A1.out.size)
      clear hb hy
      cases y with
      | false =>
        have HL : Hid (∀ G, CfIs n F x 0 G ⟨#[]⟩ 0 1) := fun G => .inr ⟨NL.out, .inl ⟨(fun q => by have := HY.out.2 q; cases this), rfl, rfl, rfl, rfl⟩⟩
        have k0 := RB.out.c0
        have k1 := RB.out.c1
        have f0 := RB.out.fr 0
        have f1 := RB.out.fr 1
        clear h4 XB H HY
        go_wp2
        exact ret_tct (b := q2) (v := .agg #[.int .i64 0, .string ⟨#[]⟩]) Tryz.results7 rfl rfl rfl (RB.out.vr 0 ⟨#[]⟩).loadVr (BAD.out _ _ (vr_below A1.out HG.out.2 _ _) HL.out)
      | true =>
        have HF : Hid (FsOk n F) := HY.out.1 rfl
        clear HY BAD
        go_wp2_with fail
        refine (Calls.mono (cloneFi_any a n c F v3 (by omega) H.out (fun e => by have := HS.out.z e; have := HS.out.le; omega))) ?_
        rintro e v4 ⟨⟨a3, c3, rfl, hE⟩, hb⟩
        have HE : Hid (EO v4 w.heap.size 51 3 (.slice a3 n c3) n (fiF F)) := hE.mono A1.out.size
        have HS3 : Hid (SlP a3 n c3) := hE.slp
        replace XB : Hid (FclB v4 q1 x) := XB.out.below hb
        replace RB : Hid (Box2 v4 q2 29 (.int .i64 0) (.string ⟨#[]⟩)) := RB.out.below hb
        replace A1 : Hid (Below w.heap.size w v4) := A1.out.trans (hb.mono A1.out.size)
        clear hb hE H
        obtain ⟨V5, hV5⟩ : ∃ V, V = v4.alloc (.cells #[.slice a3 n c3] 23) := ⟨_, rfl⟩
        have HV : Hid (v4.alloc (.cells #[.slice a3 n c3] 23) = V5) := hV5.symm
        have BX : Below v4.heap.size v4 V5 := by rw [hV5]; exact (Below.refl _ _).alloc (Nat.le_refl _) _
        have NB : Hid (Bx1 V5 v4.heap.size (.slice a3 n c3)) := by show Bx1 _ _ _; rw [hV5]; exact Bx1.new _ _ _
        have HNE : Hid (∀ g, (Value.slice a3 n c3).ownBlock = some g → g ≠ v4.heap.size) := fun g e e2 => by have := (HE.out.ge g e).2; omega
        have HQ7 : Hid (w.heap.size ≤ v4.heap.size ∧ q1 < v4.heap.size ∧ q2 < v4.heap.size) := ⟨A1.out.size, XB.out.lt, RB.out.lt⟩
        clear hV5
        replace HE : Hid (EO V5 w.heap.size 51 3 (.slice a3 n c3) n (fiF F)) := HE.out.below BX
        replace XB : Hid (FclB V5 q1 x) := XB.out.below BX
        replace RB : Hid (Box2 V5 q2 29 (.int .i64 0) (.string ⟨#[]⟩)) := RB.out.below BX
        replace A1 : Hid (Below w.heap.size w V5) := A1.out.trans (BX.mono A1.out.size)
        clear BX
        go_upto_region 6 with fail
        rw [HV.out]
        obtain ⟨q7, hq7⟩ : ∃ q, q = v4.heap.size := ⟨_, rfl⟩
        rw [← hq7] at NB HNE HQ7 ⊢
        clear hq7 HV
        obtain ⟨V6, hV6⟩ : ∃ V, V = V5.alloc (.cells #[.int .i64 0, .string ⟨#[]⟩] 29) := ⟨_, rfl⟩
        have BX : Below V5.heap.size V5 V6 := by rw [hV6]; exact (Below.refl _ _).alloc (Nat.le_refl _) _
        have R6 : Box2 V6 V5.heap.size 29 (.int .i64 0) (.string ⟨#[]⟩) := by rw [hV6]; exact Box2.madeAt (by simp) _ _ _
        have Q75 : Hid (q7 < V5.heap.size) := NB.out.lt
        have RT : Hid (Calls Tryz.prog 24 #[.func (.func 25) #[] #[.pointer (some ⟨q1, 0, none⟩), .pointer (some ⟨q7, 0, none⟩)]] V5 fun e w' => ∃ t cd w1, CloP n F x w.heap.size q7 V6 t cd w1 ∧ e = .returned (.agg #[.int .i64 cd, .string t]) ∧ w' = vrSt w1 V5.heap.size cd t ∧ Box2 w1 V5.heap.size 29 (.int .i64 0) (.string ⟨#[]⟩)) := by
          refine (replyTo_any #[.pointer (some ⟨q1, 0, none⟩), .pointer (some ⟨q7, 0, none⟩)] V5 (fun t w1 => CloP n F x w.heap.size q7 V6 t 0 w1) (fun cd w1 => CloP n F x w.heap.size q7 V6 ⟨#[]⟩ cd w1) ?_).mono ?_
          · rw [← hV6]
            refine (cfClo_any q1 q7 a3 n c3 F x w.heap.size HF.out HZ.out.1 HZ.out.2.1 HZ.out.2.2 HS3.out V6 (XB.out.below BX) (NB.out.below BX) (HE.out.below BX) HQ7.out.1 HNE.out).mono ?_
            rintro e w1 q
            refine ⟨q, ?_⟩
            rcases q with ⟨t, _, _, _, _, _, _, _, _, ho, _⟩ | ⟨t, _, _, _, _, _, _, _, _, ho, _⟩ <;> exact R6.onlyB ho (by have := Q75.out; omega)
          · rintro e w' (⟨t, w1, h0, rfl, rfl, hB⟩ | ⟨cd, w1, h1, rfl, rfl, hB⟩)
            · exact ⟨t, 0, w1, h0, rfl, rfl, hB⟩
            · exact ⟨⟨#[]⟩, cd, w1, h1, rfl, rfl, hB⟩
        have B56 : Hid (Below V5.heap.size V5 V6) := BX
        clear hV6 BX R6
        go_wp2_with fail
        refine (Calls.mono RT.out) ?_
        rintro e v7 ⟨t, cd, w1, ⟨a5, m, c5, G, hN5, hE5, hC5, hO5, hne5⟩, rfl, rfl, hB5⟩
        have HC : Hid (CfP n F x m G t cd) := hC5
        obtain ⟨q6, hq6⟩ : ∃ q, q = V5.heap.size := ⟨_, rfl⟩
        rw [← hq6] at hB5 Q75 ⊢
        have h76 : q7 ≠ q6 := by have := Q75.out; omega
        have hq := HQ7.out
        have HBL : ∀ k, k ≠ q6 → (vrSt w1 q6 cd t).heap[k]? = w1.heap[k]? := fun k hk => by
          unfold vrSt
          rw [Below.heap_setCell _ ⟨q6, 1, none⟩ _ k hk, Below.heap_setCell _ ⟨q6, 0, none⟩ _ k hk]
        have hw6 : w.heap.size ≤ V6.heap.size := Nat.le_trans A1.out.size B56.out.size
        have hw5 : w.heap.size ≤ q6 := by have := A1.out.size; omega
        have N7 : Hid (Bx1 (vrSt w1 q6 cd t) q7 (.slice a5 m c5)) := hN5.ofBlock (HBL q7 h76)
        have R7 : Hid (Box2 (vrSt w1 q6 cd t) q2 29 (.int .i64 0) (.string ⟨#[]⟩)) := ((RB.out.below B56.out).onlyB hO5 (by omega)).ofBlock (HBL q2 (by have := Q75.out; omega))
        have E7 : Hid (EO (vrSt w1 q6 cd t) w.heap.size 51 3 (.slice a5 m c5) m (fiF G)) := hE5.keep (fun g e => HBL g (fun e2 => hE5.notBoxC hB5 (by decide) (e2 ▸ e)))
        have A7 : Hid (Below w.heap.size w (vrSt w1 q6 cd t)) := vr_below ((A1.out.trans (B56.out.mono A1.out.size)).trans (hO5.toBelow hq.1 hw6)) hw5 _ _
        clear hN5 hE5 hC5 hO5 hne5 hB5 HBL hw6 hw5 RT B56 NB HE XB RB A1 HNE hq6
        generalize vrSt w1 q6 cd t = v7 at *
        obtain ⟨V8, hV8⟩ : ∃ V, V = v7.alloc (.cells #[.int .i64 cd, .string t] 29) := ⟨_, rfl⟩
        have HV : Hid (v7.alloc (.cells #[.int .i64 cd, .string t] 29) = V8) := hV8.symm
        have BX : Below v7.heap.size v7 V8 := by rw [hV8]; exact (Below.refl _ _).alloc (Nat.le_refl _) _
        have R8 : Hid (Box2 V8 v7.heap.size 29 (.int .i64 cd) (.string t)) := by show Box2 _ _ _ _ _; rw [hV8]; exact Box2.madeAt (by simp) _ _ _
        have HN8 : Hid (q2 ≠ v7.heap.size) := by have := R7.out.lt; show _ ≠ _; omega
        have N8 : Hid (Bx1 V8 q7 (.slice a5 m c5)) := N7.out.below BX
        have K8 : Hid (Box2 V8 q2 29 (.int .i64 0) (.string ⟨#[]⟩)) := R7.out.below BX
        have E8 : Hid (EO V8 w.heap.size 51 3 (.slice a5 m c5) m (fiF G)) := E7.out.below BX
        have A8 : Hid (Below w.heap.size w V8) := A7.out.trans (BX.mono A7.out.size)
        clear hV8 BX
        go_upto_region 7 with fail
        rw [HV.out]
        obtain ⟨q8, hq8⟩ : ∃ q, q = v7.heap.size := ⟨_, rfl⟩
        rw [← hq8] at R8 HN8 ⊢
        clear hq8 HV N7 R7 E7 A7
        have n0 := N8.out.1
        have j0 := R8.out.c0
        have j1 := R8.out.c1
        have k0 := K8.out.c0
        have k1 := K8.out.c1
        have f0 := K8.out.fr 0
        have f1 := K8.out.fr 1
        have K9 : Hid (Box2 (vrSt V8 q2 cd t).drew q2 29 (.int .i64 cd) (.string t)) := (K8.out.vr cd t).ofBlock rfl
        have A9 : Hid (Below w.heap.size w (vrSt V8 q2 cd t).drew) := by have h := vr_below A8.out HG.out.2 cd t; exact ⟨h.os, h.tape, h.output, h.size, h.block⟩
        have E9 : Hid (EO (vrSt V8 q2 cd t).drew w.heap.size 51 3 (.slice a5 m c5) m (fiF G)) := by
          refine E8.out.keep (fun g e => ?_)
          have hg : g ≠ q2 := fun e2 => E8.out.notBoxC K8.out (by decide) (e2 ▸ e)
          show (vrSt V8 q2 cd t).heap[g]? = _
          unfold vrSt
          rw [Below.heap_setCell _ ⟨q2, 1, none⟩ _ g hg, Below.heap_setCell _ ⟨q2, 0, none⟩ _ g hg]
        have HCF : Hid (CfIs n F x m G t cd 0) := .inr ⟨NL.out, .inr ⟨HF.out, rfl, HC.out⟩⟩
        go_region
        clear n0 j0 j1 k0 k1 f0 f1 K8 A8 E8 N8 R8
        change Exit.then _ _ _ _ (vrSt V8 q2 cd t).drew
        generalize (vrSt V8 q2 cd t).drew = v9 at *
        go_wp2
        exact ret_tct (b := q2) (v := .agg #[.int .i64 cd, .string t]) Tryz.results7 rfl rfl rfl K9.out.loadVr ⟨⟨a5, m, c5, G, t, cd, 0, HCF.out, rfl, E9.out⟩, A9.out⟩
end Go.Proofs.YtgcdoabcopihlaaGreat
