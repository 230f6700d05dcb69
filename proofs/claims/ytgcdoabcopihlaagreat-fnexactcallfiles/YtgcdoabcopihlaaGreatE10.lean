/-
  How a call ends with a code: endUnlessOK, changed.
-/
import Derived.Test.YtgcdoabcopihlaaGreatEls
import Derived.Recover
import Derived.Test.YtgcdoabcopihlaaGreatRetCell
import Derived.Test.YtgcdoabcopihlaaGreatE09
import Derived.Test.YtgcdoabcopihlaaGreatE03
import Derived.Test.YtgcdoabcopihlaaGreatFileRm
import Derived.Test.YtgcdoabcopihlaaGreatFileMk
import Derived.Test.YtgcdoabcopihlaaGreatE07
namespace Go.Proofs.YtgcdoabcopihlaaGreat
open Go.ChangeShapes Go.WideShapes Go.ChangeAt Go.RowKit
set_option linter.unusedVariables false
/-- A panic with a code. -/
def endP (c : Int) : Ending := .panicked [{ v := .iface 77 (.int .i64 c), recovered := false }]
theorem endUnless_ok (w : World) : Calls Tryz.prog 54 #[.int .i64 0] w fun e w' => e = .returned (.tuple #[]) ∧ w' = w := by
  go_enter Tryz.func54, Tryz.ntmps54
  go_wp2
  exact bodyPost_end (by simp [results, Tryz.results54]) rfl ⟨rfl, rfl⟩
theorem endUnless_no (c : Int) (h : c ≠ 0) (w : World) : Calls Tryz.prog 54 #[.int .i64 c] w fun e w' => e = endP c ∧ w' = w := by
  have g : (c != 0) = true := by simpa using h
  clear h
  go_enter Tryz.func54, Tryz.ntmps54
  go_wp2
  exact ⟨rfl, rfl, rfl⟩
theorem changed_ok (a : Option Addr) (m c : Nat) (w : World) : Calls Tryz.prog 50 #[.slice a m c, .int .i64 0] w fun e w' => e = .returned (.tuple #[.slice a m c, .string ⟨#[]⟩]) ∧ w' = w := by
  go_enter Tryz.func50, Tryz.ntmps50
  go_wp2_with fail
  refine (endUnless_ok w).mono ?_
  rintro e _ ⟨rfl, rfl⟩
  go_wp2
  go_ret2
  exact ⟨rfl, rfl⟩
theorem changed_no (a : Option Addr) (m c : Nat) (cd : Int) (h : cd ≠ 0) (w : World) : Calls Tryz.prog 50 #[.slice a m c, .int .i64 cd] w fun e w' => e = endP cd ∧ w' = w := by
  have EN : Hid (Calls Tryz.prog 54 #[.int .i64 cd] w fun e w' => e = endP cd ∧ w' = w) := endUnless_no cd h w
  clear h
  go_enter Tryz.func50, Tryz.ntmps50
  go_wp2_with fail
  refine EN.out.mono ?_
  rintro e _ ⟨rfl, rfl⟩
  unfold endP
  go_wp2
  exact ⟨rfl, rfl, rfl⟩
theorem assertEnd (c : Int) (w : World) : (Instr.typeAssert (.iface 77 (.int .i64 c)) 20 77 true).run Tryz.prog w = .ok (.tuple #[.int .i64 c, .bool true]) w := by first | kernel_rfl | rfl | simp [go_sem]
set_option maxRecDepth 100000 in
theorem catch_end (q : Nat) (c : Int) (x y : Value) (w : World) (hb : Box2 w q 29 x y) :
    CallsD Tryz.prog 49 #[.pointer (some ⟨q, 0, none⟩)] (.panicking [{ v := .iface 77 (.int .i64 c), recovered := false }]) w fun e u' w' =>
      e = .returned (.tuple #[]) ∧ u' = .panicking [{ v := .iface 77 (.int .i64 c), recovered := true }] ∧ w' = (w.setCell ⟨q, 0, none⟩ (.int .i64 c)).setCell ⟨q, 1, none⟩ (.string ⟨#[]⟩) := by
  have c0 := hb.c0
  have c1 := hb.c1
  have f0 := hb.fr 0
  have f1 := hb.fr 1
  have ta := assertEnd c w
  refine callsD_of_wpS Tryz.func49 rfl fun c₀ cs hu => ?_
  apply wpS_seq
  apply wpS_region
  simp [wpOpsS, go_sem, recoverD, hu, Tryz.ntmps49, Exit.thenS]
  refine wpS_of_wp ?_
  change Code.wp _ _ _ { tmps := #[.pointer (some ⟨q, 0, none⟩), undef, undef, undef, .iface 77 (.int .i64 c), undef, undef, undef, undef, undef, undef, undef], defers := [] } w
  go_wp2
  cases c₀
  simp_all [bodyPostS, results, Tryz.results49]
set_option maxRecDepth 100000 in
theorem catch_idle (q : Nat) (w : World) :
    CallsD Tryz.prog 49 #[.pointer (some ⟨q, 0, none⟩)] .returning w fun e u' w' => e = .returned (.tuple #[]) ∧ u' = .returning ∧ w' = w := by
  refine callsD_of_wpS Tryz.func49 rfl fun c₀ cs hu => ?_
  apply wpS_seq
  apply wpS_region
  simp [wpOpsS, go_sem, recoverD, hu, Tryz.ntmps49, Exit.thenS]
  refine wpS_of_wp ?_
  change Code.wp _ _ _ { tmps := #[.pointer (some ⟨q, 0, none⟩), undef, undef, undef, .nilIface, undef, undef, undef, undef, undef, undef, undef], defers := [] } w
  go_wp2
  cases c₀
  simp_all [bodyPostS, results, Tryz.results49]
end Go.Proofs.YtgcdoabcopihlaaGreat

/-
  replyTo: the text of a call, or the code that it ends with.
-/
namespace Go.Proofs.YtgcdoabcopihlaaGreat
open Go.ChangeShapes Go.WideShapes Go.ChangeAt Go.RowKit
set_option linter.unusedVariables false
theorem Box2.loadVr {w : World} {q : Nat} {c : Int} {t : ByteArray} (h : Box2 w q 29 (.int .i64 c) (.string t)) : (loadVar 29 ⟨q, 0, none⟩).run Tryz.prog w = .ok (.agg #[.int .i64 c, .string t]) w := by
  have h0 := h.c0
  have h1 := h.c1
  go_simp
/-- A reply is stored. -/
def vrSt (w : World) (q : Nat) (c : Int) (t : ByteArray) : World := (w.setCell ⟨q, 0, none⟩ (.int .i64 c)).setCell ⟨q, 1, none⟩ (.string t)
theorem Box2.vr {w : World} {q : Nat} {x y : Value} (h : Box2 w q 29 x y) (c : Int) (t : ByteArray) : Box2 (vrSt w q c t) q 29 (.int .i64 c) (.string t) := (h.set0 _).set1 _
theorem vr_below {B q : Nat} {w w' : World} (h : Below B w w') (hq : B ≤ q) (c : Int) (t : ByteArray) : Below B w (vrSt w' q c t) := (h.setCell hq _).setCell hq _
set_option maxRecDepth 100000 in
set_option maxHeartbeats 2000000 in
theorem replyTo_any (cap : Array Value) (w : World) (P0 : ByteArray → World → Prop) (P1 : Int → World → Prop)
    (hC : Calls Tryz.prog 25 cap (w.alloc (.cells #[.int .i64 0, .string ⟨#[]⟩] 29)) fun e w1 => ((∃ t, e = .returned (.string t) ∧ P0 t w1) ∨ (∃ c, e = endP c ∧ P1 c w1)) ∧ Box2 w1 w.heap.size 29 (.int .i64 0) (.string ⟨#[]⟩)) :
    Calls Tryz.prog 24 #[.func (.func 25) #[] cap] w fun e w' => (∃ t w1, P0 t w1 ∧ e = .returned (.agg #[.int .i64 0, .string t]) ∧ w' = vrSt w1 w.heap.size 0 t ∧ Box2 w1 w.heap.size 29 (.int .i64 0) (.string ⟨#[]⟩)) ∨ (∃ c w1, P1 c w1 ∧ e = .returned (.agg #[.int .i64 c, .string ⟨#[]⟩]) ∧ w' = vrSt w1 w.heap.size c ⟨#[]⟩ ∧ Box2 w1 w.heap.size 29 (.int .i64 0) (.string ⟨#[]⟩)) := by
  have hmf : ∀ (fn : Fn) (first cap : Array Value) (w : World), (Instr.makeFunc fn first cap).run Tryz.prog w = .ok (.func fn first cap) w := fun _ _ _ _ => rfl
  go_enter_defers Tryz.func24, Tryz.ntmps24
  go_wp2_with fail
  refine Calls.mono hC ?_
  rintro e w1 ⟨⟨t, rfl, h0⟩ | ⟨c, rfl, h1⟩, hB⟩
  · have H0 : Hid (P0 t w1) := h0
    have HB : Hid (Box2 w1 w.heap.size 29 (.int .i64 0) (.string ⟨#[]⟩)) := hB
    have k0 := hB.c0
    have k1 := hB.c1
    have f0 := hB.fr 0
    have f1 := hB.fr 1
    clear h0 hB hC
    go_wp2
    refine leaves_cons (f := 49) (args := #[.pointer (some ⟨w.heap.size, 0, none⟩)]) (by simp) (by simp [go_sem]) ?_
    refine (catch_idle w.heap.size _).mono ?_
    rintro e u' w'' ⟨rfl, rfl, rfl⟩
    have hl := (HB.out.vr 0 t).loadVr
    exact ⟨_, results_cell_one Tryz.results24 _ _ _ rfl hl, .inl ⟨t, w1, H0.out, rfl, rfl, HB.out⟩⟩
  · have H1 : Hid (P1 c w1) := h1
    have HB : Hid (Box2 w1 w.heap.size 29 (.int .i64 0) (.string ⟨#[]⟩)) := hB
    clear h1 hB hC
    unfold endP
    go_wp2
    refine leaves_cons (f := 49) (args := #[.pointer (some ⟨w.heap.size, 0, none⟩)]) (by simp) (by simp [go_sem]) ?_
    refine (catch_end w.heap.size c _ _ w1 HB.out).mono ?_
    rintro e u' w'' ⟨rfl, rfl, rfl⟩
    have hl := (HB.out.vr c ⟨#[]⟩).loadVr
    exact ⟨_, results_cell_one Tryz.results24 _ _ _ rfl hl, .inr ⟨c, w1, H1.out, rfl, rfl, HB.out⟩⟩
end Go.Proofs.YtgcdoabcopihlaaGreat

/-
  A call on files, in the program: FileCall.on (written by tools/mkon.py).
-/
namespace Go.Proofs.YtgcdoabcopihlaaGreat
open Go.ChangeShapes Go.WideShapes Go.ChangeAt Go.RowKit
set_option linter.unusedVariables false
theorem cf_of {n : Nat} {F : Nat → Fi} {x : Fcl} {m : Nat} {G : Nat → Fi} {c : Int} {P : Nat → (Nat → Fi) → Int → Prop} (hF : FsOk n F) (hp : x.p.size ≤ 65536) (hk : 1 ≤ x.k ∧ x.k ≤ 7) (h5 : x.k ≠ 5) (h7 : x.k ≠ 7) (h : (FtIs n F 1 (fun _ => x.p) c ∧ c ≠ 0 ∧ m = 0) ∨ (FtIs n F 1 (fun _ => x.p) 0 ∧ P m G c)) (hkp : P m G c → Kept n F m G c) (hin : P m G c → ¬ PthBad x → CfP n F x m G ⟨#[]⟩ c) : (c = 0 → CfP n F x m G ⟨#[]⟩ 0) ∧ (c ≠ 0 → CfP n F x n F ⟨#[]⟩ c) := by
  rcases h with ⟨h1, h2, _⟩ | ⟨h1, h2⟩
  · refine ⟨fun e => absurd e h2, fun _ => ?_⟩
    rcases ft1 hF hp h1 with ⟨_, e⟩ | ⟨q, e⟩
    · exact absurd e h2
    · exact .inr ⟨hk, .inl ⟨.inl ⟨q, fun z => h7 z.1⟩, e, rfl, rfl, rfl⟩⟩
  · have hpo : PathOk x.p := h1.ok.2.1 0 (by omega)
    have hnb : ¬ PthBad x := fun q => q.elim (fun z => z.1 hpo) (fun z => h5 z.1)
    refine ⟨fun e => ?_, fun hc => ?_⟩
    · subst e; exact hin h2 hnb
    · obtain ⟨rfl, rfl⟩ := hkp h2 hc
      exact hin h2 hnb
theorem cf_mk {n : Nat} {F : Nat → Fi} {x : Fcl} {m : Nat} {G : Nat → Fi} {c : Int} (hF : FsOk n F) (hp : x.p.size ≤ 65536) (e : x.k = 1) (h : MkIs n F x.p m G c) : (c = 0 → CfP n F x m G ⟨#[]⟩ 0) ∧ (c ≠ 0 → CfP n F x n F ⟨#[]⟩ c) :=
  cf_of (P := fun m G c => MkP n F x.p m G c) hF hp (by omega) (by omega) (by omega) h MkP.kept (fun q nb => .inr ⟨by omega, .inr ⟨nb, .inl ⟨e, q, rfl⟩⟩⟩)
theorem cf_ct {n : Nat} {F : Nat → Fi} {x : Fcl} {m : Nat} {G : Nat → Fi} {c : Int} (hF : FsOk n F) (hp : x.p.size ≤ 65536) (e : x.k = 4) (h : CtIs n F x.p x.n m G c) : (c = 0 → CfP n F x m G ⟨#[]⟩ 0) ∧ (c ≠ 0 → CfP n F x n F ⟨#[]⟩ c) :=
  cf_of (P := fun m G c => CtP n F x.p x.n m G c) hF hp (by omega) (by omega) (by omega) h CtP.kept (fun q nb => .inr ⟨by omega, .inr ⟨nb, .inr (.inr (.inr (.inl ⟨e, q, rfl⟩)))⟩⟩)
theorem cf_rm {n : Nat} {F : Nat → Fi} {x : Fcl} {m : Nat} {G : Nat → Fi} {c : Int} (hF : FsOk n F) (hp : x.p.size ≤ 65536) (e : x.k = 6) (h : RmIs n F x.p m G c) : (c = 0 → CfP n F x m G ⟨#[]⟩ 0) ∧ (c ≠ 0 → CfP n F x n F ⟨#[]⟩ c) :=
  cf_of (P := fun m G c => RmP n F x.p m G c) hF hp (by omega) (by omega) (by omega) h RmP.kept (fun q nb => .inr ⟨by omega, .inr ⟨nb, .inr (.inr (.inr (.inr (.inr (.inl ⟨e, q, rfl⟩)))))⟩⟩)
theorem cf_wr {n : Nat} {F : Nat → Fi} {x : Fcl} {m : Nat} {G : Nat → Fi} {c : Int} (hF : FsOk n F) (hp : x.p.size ≤ 65536) (hd : x.d.size ≤ 65536) (e : x.k = 2) (h : WrIs n F x.p x.a x.d m G c) : (c = 0 → CfP n F x m G ⟨#[]⟩ 0) ∧ (c ≠ 0 → CfP n F x n F ⟨#[]⟩ c) := by
  rcases h with ⟨q, _⟩ | ⟨_, h⟩
  · omega
  · exact cf_of (P := fun m G c => WrP n F x.p x.a x.d m G c) hF hp (by omega) (by omega) (by omega) h WrP.kept (fun q nb => .inr ⟨by omega, .inr ⟨nb, .inr (.inl ⟨e, q, rfl⟩)⟩⟩)
theorem cf_mv {n : Nat} {F : Nat → Fi} {x : Fcl} {m : Nat} {G : Nat → Fi} {c : Int} (hF : FsOk n F) (hp : x.p.size ≤ 65536) (ho : x.o.size ≤ 65536) (e : x.k = 5) (h : MvIs n F x.p x.o m G c) : (c = 0 → CfP n F x m G ⟨#[]⟩ 0) ∧ (c ≠ 0 → CfP n F x n F ⟨#[]⟩ c) := by
  rcases h with ⟨h1, h2, _⟩ | ⟨h1, h2⟩
  · refine ⟨fun e => absurd e h2, fun _ => ?_⟩
    rcases ft2 hF hp ho h1 with ⟨_, _, e⟩ | ⟨q, e'⟩
    · exact absurd e h2
    · refine .inr ⟨by omega, .inl ⟨?_, e', rfl, rfl, rfl⟩⟩
      by_cases z : PathOk x.p
      · exact .inr ⟨e, fun z2 => q ⟨z, z2⟩⟩
      · exact .inl ⟨z, fun z2 => by have := z2.1; omega⟩
  · obtain ⟨_, hpo, _⟩ := h1.ok
    have p0 : PathOk x.p := by simpa using hpo 0 (by omega)
    have p1 : PathOk x.o := by simpa using hpo 1 (by omega)
    have hnb : ¬ PthBad x := fun q => q.elim (fun z => z.1 p0) (fun z => z.2 p1)
    have hin : CfP n F x m G ⟨#[]⟩ c := .inr ⟨by omega, .inr ⟨hnb, .inr (.inr (.inr (.inr (.inl ⟨e, h2, rfl⟩))))⟩⟩
    refine ⟨fun e => by subst e; exact hin, fun hc => ?_⟩
    obtain ⟨rfl, rfl⟩ := MvP.kept h2 hc
    exact hin
theorem cf_rd {n : Nat} {F : Nat → Fi} {x : Fcl} {t : ByteArray} {c : Int} (hF : FsOk n F) (hp : x.p.size ≤ 65536) (e : x.k = 3) (h : RdIs n F x.p x.a x.n t c) : (c = 0 → CfP n F x n F t 0) ∧ (c ≠ 0 → CfP n F x n F ⟨#[]⟩ c) := by
  have key : PathOk x.p → CfP n F x n F t c := fun q => .inr ⟨by omega, .inr ⟨fun z => z.elim (fun y => y.1 q) (fun y => by have := y.1; omega), .inr (.inr (.inl ⟨e, h, rfl, rfl⟩))⟩⟩
  have hbad : ¬ PathOk x.p → PthBad x := fun q => .inl ⟨q, fun z => by have := z.1; omega⟩
  have ht : c ≠ 0 → t = ⟨#[]⟩ := fun hc => by
    rcases h with ⟨_, _, e⟩ | ⟨_, ⟨_, _, e⟩ | ⟨_, ⟨_, _, e⟩ | ⟨_, e, _⟩⟩⟩
    · exact e
    · exact e
    · exact e
    · exact absurd e hc
  by_cases q : PathOk x.p
  · refine ⟨fun e => by subst e; exact key q, fun hc => ?_⟩
    have := key q
    rw [ht hc] at this
    exact this
  · have h16 : c = 16 := by
      rcases h with ⟨h1, h2, _⟩ | ⟨h1, _⟩
      · rcases ft1 hF hp h1 with ⟨z, _⟩ | ⟨_, z⟩
        · exact absurd z q
        · exact z
      · exact absurd (h1.ok.2.1 0 (by omega)) q
    refine ⟨fun e => by omega, fun _ => .inr ⟨by omega, .inl ⟨hbad q, h16, rfl, rfl, rfl⟩⟩⟩
/-- What on hands back: files and a text, or a code as a panic. -/
def RetOn (n : Nat) (F : Nat → Fi) (x : Fcl) (a : Option Addr) (c B : Nat) (e : Ending) (w : World) : Prop :=
  (∃ (a' : Option Addr) (m c' : Nat) (G : Nat → Fi) (t : ByteArray), e = .returned (.tuple #[.slice a' m c', .string t]) ∧ (EO w B 51 3 (.slice a' m c') m (fiF G) ∨ (a' = a ∧ m = n ∧ c' = c ∧ G = F)) ∧ CfP n F x m G t 0) ∨ (∃ cd : Int, cd ≠ 0 ∧ e = endP cd ∧ CfP n F x n F ⟨#[]⟩ cd)
set_option maxRecDepth 100000 in
set_option maxHeartbeats 8000000 in
theorem on_any (a : Option Addr) (n c : Nat) (F : Nat → Fi) (x : Fcl) (hF : FsOk n F) (hp : x.p.size ≤ 65536) (ho : x.o.size ≤ 65536) (hd : x.d.size ≤ 65536) (h7 : x.k ≠ 7) (hsl : SlP a n c) (w : World) (h : Els w 3 a n (fiF F)) :
    Calls Tryz.prog 26 #[.agg #[.int .i64 x.k, .int .i64 x.a, .int .i64 x.n, .string x.p, .string x.o, .string x.d], .slice a n c] w fun e w' => RetOn n F x a c w.heap.size e w' ∧ Below w.heap.size w w' := by
  obtain ⟨xk, xa, xn, xp, xo, xd⟩ := x
  dsimp only at *
  have hn12 : n ≤ 12 := hF.1
  have HF : Hid (FsOk n F) := hF
  have HS : Hid (SlP a n c) := hsl
  have HSZ : Hid (∀ i, i < n → (F i).p.size ≤ 1048576) := fun i hi => by have := (hF.2 i hi).1.1.1; omega
  have HKK : xk = 1 ∨ xk = 2 ∨ xk = 3 ∨ xk = 4 ∨ xk = 5 ∨ xk = 6 ∨ ¬ (1 ≤ xk ∧ xk ≤ 7) := by omega
  rcases HKK with e | e | e | e | e | e | e
  · subst e
    have W1 : Below w.heap.size w (w.alloc (.cells #[.int .i64 1, .int .i64 xa, .int .i64 xn, .string xp, .string xo, .string xd] 26)) := (Below.refl _ _).alloc (Nat.le_refl _) _
    have A1 : Hid (Below w.heap.size w (w.alloc (.cells #[.int .i64 1, .int .i64 xa, .int .i64 xn, .string xp, .string xo, .string xd] 26))) := W1
    have H : Hid (Els (w.alloc (.cells #[.int .i64 1, .int .i64 xa, .int .i64 xn, .string xp, .string xo, .string xd] 26)) 3 a n (fiF F)) := h.below W1
    clear h hF hsl W1
    go_enter Tryz.func26, Tryz.ntmps26
    go_wp2_with fail
    refine (implMk_any a n c F xp HSZ.out (by omega) HS.out (w.alloc (.cells #[.int .i64 1, .int .i64 xa, .int .i64 xn, .string xp, .string xo, .string xd] 26)) H.out).mono ?_
    rintro e w1 ⟨⟨m, G, cd, hM, o1, c1, rfl, hE⟩, hb⟩
    have CF := cf_mk (x := ⟨1, xa, xn, xp, xo, xd⟩) HF.out hp rfl hM
    have HE : Hid (EO w1 w.heap.size 51 3 (.slice o1 m c1) m (fiF G)) := hE.mono A1.out.size
    have B1 : Hid (Below w.heap.size w w1) := A1.out.trans (hb.mono A1.out.size)
    clear hM hE hb H A1
    by_cases hc : cd = 0
    · have HC : Hid (CfP n F ⟨1, xa, xn, xp, xo, xd⟩ m G ⟨#[]⟩ 0) := CF.1 hc
      subst hc
      clear CF
      go_wp2_with fail
      refine (changed_ok o1 m c1 w1).mono ?_
      rintro e _ ⟨rfl, rfl⟩
      go_wp2
      go_ret2
      exact ⟨.inl ⟨o1, m, c1, G, ⟨#[]⟩, rfl, .inl HE.out, HC.out⟩, B1.out⟩
    · have HC : Hid (CfP n F ⟨1, xa, xn, xp, xo, xd⟩ n F ⟨#[]⟩ cd) := CF.2 hc
      have HCD : Hid (cd ≠ 0) := hc
      clear hc CF
      go_wp2_with fail
      refine (changed_no o1 m c1 cd HCD.out w1).mono ?_
      rintro e _ ⟨rfl, rfl⟩
      unfold endP
      go_wp2
      exact ⟨rfl, .inr ⟨cd, HCD.out, rfl, HC.out⟩, B1.out⟩
  · subst e
    have W1 : Below w.heap.size w (w.alloc (.cells #[.int .i64 2, .int .i64 xa, .int .i64 xn, .string xp, .string xo, .string xd] 26)) := (Below.refl _ _).alloc (Nat.le_refl _) _
    have A1 : Hid (Below w.heap.size w (w.alloc (.cells #[.int .i64 2, .int .i64 xa, .int .i64 xn, .string xp, .string xo, .string xd] 26))) := W1
    have H : Hid (Els (w.alloc (.cells #[.int .i64 2, .int .i64 xa, .int .i64 xn, .string xp, .string xo, .string xd] 26)) 3 a n (fiF F)) := h.below W1
    clear h hF hsl W1
    go_enter Tryz.func26, Tryz.ntmps26
    go_wp2_with fail
    refine (implWr_any a n c F xp xa xd HSZ.out (by omega) HS.out (w.alloc (.cells #[.int .i64 2, .int .i64 xa, .int .i64 xn, .string xp, .string xo, .string xd] 26)) H.out).mono ?_
    rintro e w1 ⟨⟨m, G, cd, hM, o1, c1, rfl, hE⟩, hb⟩
    have CF := cf_wr (x := ⟨2, xa, xn, xp, xo, xd⟩) HF.out hp hd rfl hM
    have HE : Hid (EO w1 w.heap.size 51 3 (.slice o1 m c1) m (fiF G)) := hE.mono A1.out.size
    have B1 : Hid (Below w.heap.size w w1) := A1.out.trans (hb.mono A1.out.size)
    clear hM hE hb H A1
    by_cases hc : cd = 0
    · have HC : Hid (CfP n F ⟨2, xa, xn, xp, xo, xd⟩ m G ⟨#[]⟩ 0) := CF.1 hc
      subst hc
      clear CF
      go_wp2_with fail
      refine (changed_ok o1 m c1 w1).mono ?_
      rintro e _ ⟨rfl, rfl⟩
      go_wp2
      go_ret2
      exact ⟨.inl ⟨o1, m, c1, G, ⟨#[]⟩, rfl, .inl HE.out, HC.out⟩, B1.out⟩
    · have HC : Hid (CfP n F ⟨2, xa, xn, xp, xo, xd⟩ n F ⟨#[]⟩ cd) := CF.2 hc
      have HCD : Hid (cd ≠ 0) := hc
      clear hc CF
      go_wp2_with fail
      refine (changed_no o1 m c1 cd HCD.out w1).mono ?_
      rintro e _ ⟨rfl, rfl⟩
      unfold endP
      go_wp2
      exact ⟨rfl, .inr ⟨cd, HCD.out, rfl, HC.out⟩, B1.out⟩
  · subst e
    have W1 : Below w.heap.size w (w.alloc (.cells #[.int .i64 3, .int .i64 xa, .int .i64 xn, .string xp, .string xo, .string xd] 26)) := (Below.refl _ _).alloc (Nat.le_refl _) _
    have A1 : Hid (Below w.heap.size w (w.alloc (.cells #[.int .i64 3, .int .i64 xa, .int .i64 xn, .string xp, .string xo, .string xd] 26))) := W1
    have H : Hid (Els (w.alloc (.cells #[.int .i64 3, .int .i64 xa, .int .i64 xn, .string xp, .string xo, .string xd] 26)) 3 a n (fiF F)) := h.below W1
    clear h hF hsl W1
    go_enter Tryz.func26, Tryz.ntmps26
    go_wp2_with fail
    refine (implRead_any a n c F xp xa xn HSZ.out (by omega) HS.out (w.alloc (.cells #[.int .i64 3, .int .i64 xa, .int .i64 xn, .string xp, .string xo, .string xd] 26)) H.out).mono ?_
    rintro e w1 ⟨⟨t, cd, hM, rfl⟩, hb⟩
    have CF := cf_rd (x := ⟨3, xa, xn, xp, xo, xd⟩) HF.out hp rfl hM
    have B1 : Hid (Below w.heap.size w w1) := A1.out.trans (hb.mono A1.out.size)
    clear hM hb H A1
    by_cases hc : cd = 0
    · have HC : Hid (CfP n F ⟨3, xa, xn, xp, xo, xd⟩ n F t 0) := CF.1 hc
      subst hc
      clear CF
      go_wp2_with fail
      refine (endUnless_ok w1).mono ?_
      rintro e _ ⟨rfl, rfl⟩
      go_wp2
      go_ret2
      exact ⟨.inl ⟨a, n, c, F, t, rfl, .inr ⟨rfl, rfl, rfl, rfl⟩, HC.out⟩, B1.out⟩
    · have HC : Hid (CfP n F ⟨3, xa, xn, xp, xo, xd⟩ n F ⟨#[]⟩ cd) := CF.2 hc
      have HCD : Hid (cd ≠ 0) := hc
      clear hc CF
      go_wp2_with fail
      refine (endUnless_no cd HCD.out w1).mono ?_
      rintro e _ ⟨rfl, rfl⟩
      unfold endP
      go_wp2
      exact ⟨rfl, .inr ⟨cd, HCD.out, rfl, HC.out⟩, B1.out⟩
  · subst e
    have W1 : Below w.heap.size w (w.alloc (.cells #[.int .i64 4, .int .i64 xa, .int .i64 xn, .string xp, .string xo, .string xd] 26)) := (Below.refl _ _).alloc (Nat.le_refl _) _
    have A1 : Hid (Below w.heap.size w (w.alloc (.cells #[.int .i64 4, .int .i64 xa, .int .i64 xn, .string xp, .string xo, .string xd] 26))) := W1
    have H : Hid (Els (w.alloc (.cells #[.int .i64 4, .int .i64 xa, .int .i64 xn, .string xp, .string xo, .string xd] 26)) 3 a n (fiF F)) := h.below W1
    clear h hF hsl W1
    go_enter Tryz.func26, Tryz.ntmps26
    go_wp2_with fail
    refine (implCt_any a n c F xp xn HSZ.out (by omega) HS.out (w.alloc (.cells #[.int .i64 4, .int .i64 xa, .int .i64 xn, .string xp, .string xo, .string xd] 26)) H.out).mono ?_
    rintro e w1 ⟨⟨m, G, cd, hM, o1, c1, rfl, hE⟩, hb⟩
    have CF := cf_ct (x := ⟨4, xa, xn, xp, xo, xd⟩) HF.out hp rfl hM
    have HE : Hid (EO w1 w.heap.size 51 3 (.slice o1 m c1) m (fiF G)) := hE.mono A1.out.size
    have B1 : Hid (Below w.heap.size w w1) := A1.out.trans (hb.mono A1.out.size)
    clear hM hE hb H A1
    by_cases hc : cd = 0
    · have HC : Hid (CfP n F ⟨4, xa, xn, xp, xo, xd⟩ m G ⟨#[]⟩ 0) := CF.1 hc
      subst hc
      clear CF
      go_wp2_with fail
      refine (changed_ok o1 m c1 w1).mono ?_
      rintro e _ ⟨rfl, rfl⟩
      go_wp2
      go_ret2
      exact ⟨.inl ⟨o1, m, c1, G, ⟨#[]⟩, rfl, .inl HE.out, HC.out⟩, B1.out⟩
    · have HC : Hid (CfP n F ⟨4, xa, xn, xp, xo, xd⟩ n F ⟨#[]⟩ cd) := CF.2 hc
      have HCD : Hid (cd ≠ 0) := hc
      clear hc CF
      go_wp2_with fail
      refine (changed_no o1 m c1 cd HCD.out w1).mono ?_
      rintro e _ ⟨rfl, rfl⟩
      unfold endP
      go_wp2
      exact ⟨rfl, .inr ⟨cd, HCD.out, rfl, HC.out⟩, B1.out⟩
  · subst e
    have W1 : Below w.heap.size w (w.alloc (.cells #[.int .i64 5, .int .i64 xa, .int .i64 xn, .string xp, .string xo, .string xd] 26)) := (Below.refl _ _).alloc (Nat.le_refl _) _
    have A1 : Hid (Below w.heap.size w (w.alloc (.cells #[.int .i64 5, .int .i64 xa, .int .i64 xn, .string xp, .string xo, .string xd] 26))) := W1
    have H : Hid (Els (w.alloc (.cells #[.int .i64 5, .int .i64 xa, .int .i64 xn, .string xp, .string xo, .string xd] 26)) 3 a n (fiF F)) := h.below W1
    clear h hF hsl W1
    go_enter Tryz.func26, Tryz.ntmps26
    go_wp2_with fail
    refine (implMv_any a n c F xp xo HSZ.out (by omega) HS.out (w.alloc (.cells #[.int .i64 5, .int .i64 xa, .int .i64 xn, .string xp, .string xo, .string xd] 26)) H.out).mono ?_
    rintro e w1 ⟨⟨m, G, cd, hM, o1, c1, rfl, hE⟩, hb⟩
    have CF := cf_mv (x := ⟨5, xa, xn, xp, xo, xd⟩) HF.out hp ho rfl hM
    have HE : Hid (EO w1 w.heap.size 51 3 (.slice o1 m c1) m (fiF G)) := hE.mono A1.out.size
    have B1 : Hid (Below w.heap.size w w1) := A1.out.trans (hb.mono A1.out.size)
    clear hM hE hb H A1
    by_cases hc : cd = 0
    · have HC : Hid (CfP n F ⟨5, xa, xn, xp, xo, xd⟩ m G ⟨#[]⟩ 0) := CF.1 hc
      subst hc
      clear CF
      go_wp2_with fail
      refine (changed_ok o1 m c1 w1).mono ?_
      rintro e _ ⟨rfl, rfl⟩
      go_wp2
      go_ret2
      exact ⟨.inl ⟨o1, m, c1, G, ⟨#[]⟩, rfl, .inl HE.out, HC.out⟩, B1.out⟩
    · have HC : Hid (CfP n F ⟨5, xa, xn, xp, xo, xd⟩ n F ⟨#[]⟩ cd) := CF.2 hc
      have HCD : Hid (cd ≠ 0) := hc
      clear hc CF
      go_wp2_with fail
      refine (changed_no o1 m c1 cd HCD.out w1).mono ?_
      rintro e _ ⟨rfl, rfl⟩
      unfold endP
      go_wp2
      exact ⟨rfl, .inr ⟨cd, HCD.out, rfl, HC.out⟩, B1.out⟩
  · subst e
    have W1 : Below w.heap.size w (w.alloc (.cells #[.int .i64 6, .int .i64 xa, .int .i64 xn, .string xp, .string xo, .string xd] 26)) := (Below.refl _ _).alloc (Nat.le_refl _) _
    have A1 : Hid (Below w.heap.size w (w.alloc (.cells #[.int .i64 6, .int .i64 xa, .int .i64 xn, .string xp, .string xo, .string xd] 26))) := W1
    have H : Hid (Els (w.alloc (.cells #[.int .i64 6, .int .i64 xa, .int .i64 xn, .string xp, .string xo, .string xd] 26)) 3 a n (fiF F)) := h.below W1
    clear h hF hsl W1
    go_enter Tryz.func26, Tryz.ntmps26
    go_wp2_with fail
    refine (implRm_any a n c F xp HSZ.out (by omega) HS.out (w.alloc (.cells #[.int .i64 6, .int .i64 xa, .int .i64 xn, .string xp, .string xo, .string xd] 26)) H.out).mono ?_
    rintro e w1 ⟨⟨m, G, cd, hM, o1, c1, rfl, hE⟩, hb⟩
    have CF := cf_rm (x := ⟨6, xa, xn, xp, xo, xd⟩) HF.out hp rfl hM
    have HE : Hid (EO w1 w.heap.size 51 3 (.slice o1 m c1) m (fiF G)) := hE.mono A1.out.size
    have B1 : Hid (Below w.heap.size w w1) := A1.out.trans (hb.mono A1.out.size)
    clear hM hE hb H A1
    by_cases hc : cd = 0
    · have HC : Hid (CfP n F ⟨6, xa, xn, xp, xo, xd⟩ m G ⟨#[]⟩ 0) := CF.1 hc
      subst hc
      clear CF
      go_wp2_with fail
      refine (changed_ok o1 m c1 w1).mono ?_
      rintro e _ ⟨rfl, rfl⟩
      go_wp2
      go_ret2
      exact ⟨.inl ⟨o1, m, c1, G, ⟨#[]⟩, rfl, .inl HE.out, HC.out⟩, B1.out⟩
    · have HC : Hid (CfP n F ⟨6, xa, xn, xp, xo, xd⟩ n F ⟨#[]⟩ cd) := CF.2 hc
      have HCD : Hid (cd ≠ 0) := hc
      clear hc CF
      go_wp2_with fail
      refine (changed_no o1 m c1 cd HCD.out w1).mono ?_
      rintro e _ ⟨rfl, rfl⟩
      unfold endP
      go_wp2
      exact ⟨rfl, .inr ⟨cd, HCD.out, rfl, HC.out⟩, B1.out⟩
  · skip
    have W1 : Below w.heap.size w (w.alloc (.cells #[.int .i64 xk, .int .i64 xa, .int .i64 xn, .string xp, .string xo, .string xd] 26)) := (Below.refl _ _).alloc (Nat.le_refl _) _
    have A1 : Hid (Below w.heap.size w (w.alloc (.cells #[.int .i64 xk, .int .i64 xa, .int .i64 xn, .string xp, .string xo, .string xd] 26))) := W1
    have H : Hid (Els (w.alloc (.cells #[.int .i64 xk, .int .i64 xa, .int .i64 xn, .string xp, .string xo, .string xd] 26)) 3 a n (fiF F)) := h.below W1
    have HK : Hid (¬ (1 ≤ xk ∧ xk ≤ 7)) := e
    have n1 : (xk == 1) = false := by simp; omega
    have n2 : (xk == 2) = false := by simp; omega
    have n3 : (xk == 3) = false := by simp; omega
    have n4 : (xk == 4) = false := by simp; omega
    have n5 : (xk == 5) = false := by simp; omega
    have n6 : (xk == 6) = false := by simp; omega
    have n7 : (xk == 7) = false := by simp; omega
    clear h hF hsl W1 H e
    go_enter Tryz.func26, Tryz.ntmps26
    go_wp2
    exact ⟨rfl, .inr ⟨3, by decide, rfl, .inl ⟨HK.out, rfl, rfl, rfl, rfl⟩⟩, A1.out⟩
end Go.Proofs.YtgcdoabcopihlaaGreat
