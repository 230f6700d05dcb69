/-
  Texts of the proof, joined: BankSt, BankSs.
-/
import Derived.Test.YtpngjkhncfbnpaaDoorU30
import Derived.Test.YtpngjkhncfbnpaaDoorU35
namespace Go.Proofs.YtpngjkhncfbnpaaDoor
open Go.ChangeShapes Go.WideShapes Go.ChangeAt Go.RowKit
set_option linter.unusedVariables false
theorem ret_cellTT {P : Program} {fn : Func} {p u u2 : Tmp} {ty : TypeId} {tmps : Array Value} {w : World} {b : Nat} {v x x2 : Value} {Post : Ending → World → Prop} (h : fn.results = #[.cell p ty, .tmp u, .tmp u2]) (hp : tmps.getD p undef = .pointer (some ⟨b, 0, none⟩)) (hu : tmps.getD u undef = x) (hu2 : tmps.getD u2 undef = x2) (hl : (loadVar ty ⟨b, 0, none⟩).run P w = .ok v w) (hq : Post (.returned (.tuple #[v, x, x2])) w) : bodyPost P fn Post .ret { tmps := tmps, defers := [] } w := by
  refine bodyPost_ret (v := .tuple #[v, x, x2]) ?_ rfl hq
  simp only [Array.getD_eq_getD_getElem?] at hp hu hu2
  unfold results
  rw [h]
  simp [hp, hu, hu2, asAddr, hl, Result.andThen]
def BoxQ (w : World) (p : Nat) (q : Rq) : Prop := w.rowIs p 52 5 (fun i => if i = 0 then .int .i64 q.se else if i = 1 then .int .i64 q.sq else if i = 2 then .int .i64 q.x.v else if i = 3 then .int .i64 q.x.c else .string q.x.r)
theorem BoxQ.c0 {w : World} {p : Nat} {q : Rq} (h : BoxQ w p q) : w.cell? ⟨p, 0, none⟩ = some (.int .i64 q.se) := World.rowIs.cell h (i := 0) (by omega)
theorem BoxQ.c1 {w : World} {p : Nat} {q : Rq} (h : BoxQ w p q) : w.cell? ⟨p, 1, none⟩ = some (.int .i64 q.sq) := World.rowIs.cell h (i := 1) (by omega)
theorem BoxQ.c2 {w : World} {p : Nat} {q : Rq} (h : BoxQ w p q) : w.cell? ⟨p, 2, none⟩ = some (.int .i64 q.x.v) := World.rowIs.cell h (i := 2) (by omega)
theorem BoxQ.c3 {w : World} {p : Nat} {q : Rq} (h : BoxQ w p q) : w.cell? ⟨p, 3, none⟩ = some (.int .i64 q.x.c) := World.rowIs.cell h (i := 3) (by omega)
theorem BoxQ.c4 {w : World} {p : Nat} {q : Rq} (h : BoxQ w p q) : w.cell? ⟨p, 4, none⟩ = some (.string q.x.r) := World.rowIs.cell h (i := 4) (by omega)
theorem BoxQ.lt {w : World} {p : Nat} {q : Rq} (h : BoxQ w p q) : p < w.heap.size := World.rowIs.lt h
theorem BoxQ.ofBlock {w w' : World} {p : Nat} {q : Rq} (h : BoxQ w p q) (e : w'.heap[p]? = w.heap[p]?) : BoxQ w' p q := World.rowIs.of_block h e
theorem BoxQ.below {w w' : World} {p : Nat} {q : Rq} (h : BoxQ w p q) (hb : Below w.heap.size w w') : BoxQ w' p q := h.ofBlock (hb.block p h.lt)
theorem BoxQ.alloc {w : World} {p : Nat} {q : Rq} (h : BoxQ w p q) (o : Obj) : BoxQ (w.alloc o) p q := World.rowIs.alloc h o
theorem BoxQ.madeAt {w : World} {p : Nat} (hp : w.heap.size = p) (q : Rq) : BoxQ (w.alloc (.cells #[.int .i64 q.se, .int .i64 q.sq, .int .i64 q.x.v, .int .i64 q.x.c, .string q.x.r] 52)) p q := by
  subst hp
  exact World.rowIs_alloc w #[.int .i64 q.se, .int .i64 q.sq, .int .i64 q.x.v, .int .i64 q.x.c, .string q.x.r] 52 _ (fun i hi => by
    rcases (show i = 0 ∨ i = 1 ∨ i = 2 ∨ i = 3 ∨ i = 4 by simp at hi; omega) with rfl | rfl | rfl | rfl | rfl <;> rfl)
theorem Box2.loadbk {w : World} {b : Nat} {x y : Value} (h : Box2 w b 46 x y) : (loadVar 46 ⟨b, 0, none⟩).run Tryd.prog w = .ok (.agg #[x, y]) w := by
  have h0 := h.c0
  have h1 := h.c1
  go_simp
def NoIs (b : Bk) (x : Rg) (now cd : Int) : Prop := (now = 1000000 ∧ cd = 19) ∨ (now < 1000000 ∧ x.c ≤ now ∧ cd = 11) ∨ (now < 1000000 ∧ now + 1 < x.c ∧ cd = 15) ∨ (now < 1000000 ∧ x.c = now + 1 ∧ ¬ b.hasR x.v ∧ b.nr = 6 ∧ cd = 7)
set_option maxRecDepth 100000 in
set_option maxHeartbeats 4000000 in
theorem l08Step_no (b : Bk) (q : Rq) (now cd : Int) (hk : b.Ok) (hn : NowIs b q.x.v now) (hc : NoIs b q.x now cd) (a0 a1 : Option Addr) (c0 c1 : Nat) (w : World) (h : BankV w b a0 a1) :
    Calls Tryd.prog 93 #[.agg #[.slice a0 b.nr c0, .slice a1 b.ns c1], .agg #[.int .i64 q.se, .int .i64 q.sq, .int .i64 q.x.v, .int .i64 q.x.c, .string q.x.r]] w fun e w' => e = .returned (.tuple #[.agg #[.slice a0 b.nr c0, .slice a1 b.ns c1], .int .i64 cd, .int .i64 now]) ∧ Below w.heap.size w w' := by
  have HV : Hid (BankV w b a0 a1) := h
  have hr := hn.range hk
  have e0 : IntKind.i64.wrap (now + 1) = now + 1 := IntWalk.i64_in _ (by omega)
  have A1 : Hid (Below w.heap.size w (((w.alloc (.cells #[.slice a0 b.nr c0, .slice a1 b.ns c1] 46)).alloc (.cells #[.int .i64 q.se, .int .i64 q.sq, .int .i64 q.x.v, .int .i64 q.x.c, .string q.x.r] 52)).alloc (.cells #[.slice none 0 0, .slice none 0 0] 46))) := (((Below.refl _ _).alloc (Nat.le_refl _) _).alloc (by simp) _).alloc (by simp; omega) _
  have X : Hid (Box2 (((w.alloc (.cells #[.slice a0 b.nr c0, .slice a1 b.ns c1] 46)).alloc (.cells #[.int .i64 q.se, .int .i64 q.sq, .int .i64 q.x.v, .int .i64 q.x.c, .string q.x.r] 52)).alloc (.cells #[.slice none 0 0, .slice none 0 0] 46)) w.heap.size 46 (.slice a0 b.nr c0) (.slice a1 b.ns c1)) := ((Box2.made _ _ _ _).alloc _).alloc _
  have XQ : Hid (BoxQ (((w.alloc (.cells #[.slice a0 b.nr c0, .slice a1 b.ns c1] 46)).alloc (.cells #[.int .i64 q.se, .int .i64 q.sq, .int .i64 q.x.v, .int .i64 q.x.c, .string q.x.r] 52)).alloc (.cells #[.slice none 0 0, .slice none 0 0] 46)) (w.heap.size + 1) q) := (BoxQ.madeAt (by simp) q).alloc _
  have Y : Hid (Box2 (((w.alloc (.cells #[.slice a0 b.nr c0, .slice a1 b.ns c1] 46)).alloc (.cells #[.int .i64 q.se, .int .i64 q.sq, .int .i64 q.x.v, .int .i64 q.x.c, .string q.x.r] 52)).alloc (.cells #[.slice none 0 0, .slice none 0 0] 46)) (w.heap.size + 2) 46 (.slice none 0 0) (.slice none 0 0)) := Box2.madeAt (by simp) _ _ _
  have HC : Hid (NoIs b q.x now cd) := hc
  clear h hc
  rcases hn with ⟨g, hnow⟩ | ⟨g, hnow⟩
  · have hkn := g.1
    have FH : Hid (∀ (w : World), BankV w b a0 a1 → Calls Tryd.prog 113 #[.agg #[.slice a0 b.nr c0, .slice a1 b.ns c1], .int .i64 q.x.v] w fun e w' => e = .returned (.int .i64 ((b.kR q.x.v : Nat) : Int)) ∧ Below w.heap.size w w') := fun w h => l08Find_any b q.x.v _ hk (.inl ⟨g, rfl⟩) a0 a1 c0 c1 w h
    go_enter Tryd.func93, Tryd.ntmps93
    go_wp2_with fail
    generalize (((w.alloc (.cells #[.slice a0 b.nr c0, .slice a1 b.ns c1] 46)).alloc (.cells #[.int .i64 q.se, .int .i64 q.sq, .int .i64 q.x.v, .int .i64 q.x.c, .string q.x.r] 52)).alloc (.cells #[.slice none 0 0, .slice none 0 0] 46)) = v at *
    refine (FH.out _ (HV.out.below A1.out)).mono ?_
    rintro e v2 ⟨rfl, hb⟩
    replace A1 : Hid (Below w.heap.size w v2) := A1.out.trans (hb.mono A1.out.size)
    replace X : Hid (Box2 v2 w.heap.size 46 (.slice a0 b.nr c0) (.slice a1 b.ns c1)) := X.out.below hb
    replace XQ : Hid (BoxQ v2 (w.heap.size + 1) q) := XQ.out.below hb
    replace Y : Hid (Box2 v2 (w.heap.size + 2) 46 (.slice none 0 0) (.slice none 0 0)) := Y.out.below hb
    clear hb FH
    have x0 := X.out.c0
    have x1 := X.out.c1
    have q3 := XQ.out.c3
    have y0 := Y.out.c0
    have y1 := Y.out.c1
    have f0 := Y.out.fr 0
    have f1 := Y.out.fr 1
    obtain ⟨p, off, rfl, hcc⟩ := (HV.out.1.below A1.out).opened (by omega)
    obtain ⟨d0, d1, d2⟩ := Els.rgC hcc (b.kR q.x.v) hkn
    rw [← hnow] at d1
    clear hcc d0 d2 hnow HV
    generalize hu : b.kR q.x.v = K at *
    have hkn' : (K : Int) < (b.nr : Int) := by omega
    have hk0 : ¬ (K : Int) < 0 := by omega
    have hk1 : 0 ≤ (K : Int) := by omega
    clear hu
    rcases HC.out with ⟨k1, rfl⟩ | ⟨k1, k2, rfl⟩ | ⟨k1, k2, rfl⟩ | ⟨k1, k2, k3, k4, rfl⟩
    · have m1 : (now == 1000000) = true := by simp; omega
      subst k1
      clear HC hk g
      go_wp2
      exact ret_cellTT (b := w.heap.size + 2) Tryd.results93 rfl rfl rfl (Box2.loadbk ((Y.out.set0 _).set1 _)) ⟨rfl, (A1.out.setCell (by show w.heap.size ≤ w.heap.size + 2; omega) _).setCell (by show w.heap.size ≤ w.heap.size + 2; omega) _⟩
    · have m1 : (now == 1000000) = false := by simp; omega
      clear HC hk g
      go_wp2
      exact ret_cellTT (b := w.heap.size + 2) Tryd.results93 rfl rfl rfl (Box2.loadbk ((Y.out.set0 _).set1 _)) ⟨rfl, (A1.out.setCell (by show w.heap.size ≤ w.heap.size + 2; omega) _).setCell (by show w.heap.size ≤ w.heap.size + 2; omega) _⟩
    · have m1 : (now == 1000000) = false := by simp; omega
      have m2 : ¬ q.x.c ≤ now := by omega
      clear HC hk g
      go_wp2
      exact ret_cellTT (b := w.heap.size + 2) Tryd.results93 rfl rfl rfl (Box2.loadbk ((Y.out.set0 _).set1 _)) ⟨rfl, (A1.out.setCell (by show w.heap.size ≤ w.heap.size + 2; omega) _).setCell (by show w.heap.size ≤ w.heap.size + 2; omega) _⟩
    · exact absurd g k3
  · subst hnow
    have FH : Hid (∀ (w : World), BankV w b a0 a1 → Calls Tryd.prog 113 #[.agg #[.slice a0 b.nr c0, .slice a1 b.ns c1], .int .i64 q.x.v] w fun e w' => e = .returned (.int .i64 (-1)) ∧ Below w.heap.size w w') := fun w h => l08Find_any b q.x.v _ hk (.inr ⟨g, rfl⟩) a0 a1 c0 c1 w h
    go_enter Tryd.func93, Tryd.ntmps93
    go_wp2_with fail
    generalize (((w.alloc (.cells #[.slice a0 b.nr c0, .slice a1 b.ns c1] 46)).alloc (.cells #[.int .i64 q.se, .int .i64 q.sq, .int .i64 q.x.v, .int .i64 q.x.c, .string q.x.r] 52)).alloc (.cells #[.slice none 0 0, .slice none 0 0] 46)) = v at *
    refine (FH.out _ (HV.out.below A1.out)).mono ?_
    rintro e v2 ⟨rfl, hb⟩
    replace A1 : Hid (Below w.heap.size w v2) := A1.out.trans (hb.mono A1.out.size)
    replace X : Hid (Box2 v2 w.heap.size 46 (.slice a0 b.nr c0) (.slice a1 b.ns c1)) := X.out.below hb
    replace XQ : Hid (BoxQ v2 (w.heap.size + 1) q) := XQ.out.below hb
    replace Y : Hid (Box2 v2 (w.heap.size + 2) 46 (.slice none 0 0) (.slice none 0 0)) := Y.out.below hb
    clear hb FH
    have x0 := X.out.c0
    have x1 := X.out.c1
    have q3 := XQ.out.c3
    have y0 := Y.out.c0
    have y1 := Y.out.c1
    have f0 := Y.out.fr 0
    have f1 := Y.out.fr 1
    clear HV
    rcases HC.out with ⟨k1, rfl⟩ | ⟨k1, k2, rfl⟩ | ⟨k1, k2, rfl⟩ | ⟨k1, k2, k3, k4, rfl⟩
    · exact absurd k1 (by omega)
    · clear HC hk g
      go_wp2
      exact ret_cellTT (b := w.heap.size + 2) Tryd.results93 rfl rfl rfl (Box2.loadbk ((Y.out.set0 _).set1 _)) ⟨rfl, (A1.out.setCell (by show w.heap.size ≤ w.heap.size + 2; omega) _).setCell (by show w.heap.size ≤ w.heap.size + 2; omega) _⟩
    · have m2 : ¬ q.x.c ≤ 0 := by omega
      have m3 : 1 < q.x.c := by omega
      clear HC hk g
      go_wp2
      exact ret_cellTT (b := w.heap.size + 2) Tryd.results93 rfl rfl rfl (Box2.loadbk ((Y.out.set0 _).set1 _)) ⟨rfl, (A1.out.setCell (by show w.heap.size ≤ w.heap.size + 2; omega) _).setCell (by show w.heap.size ≤ w.heap.size + 2; omega) _⟩
    · have m4 : ((b.nr : Int) == 6) = true := by simp; omega
      clear k3 k4
      clear HC hk g
      go_wp2
      exact ret_cellTT (b := w.heap.size + 2) Tryd.results93 rfl rfl rfl (Box2.loadbk ((Y.out.set0 _).set1 _)) ⟨rfl, (A1.out.setCell (by show w.heap.size ≤ w.heap.size + 2; omega) _).setCell (by show w.heap.size ≤ w.heap.size + 2; omega) _⟩
end Go.Proofs.YtpngjkhncfbnpaaDoor
namespace Go.Proofs.YtpngjkhncfbnpaaDoor
open Go.ChangeShapes Go.WideShapes Go.ChangeAt Go.RowKit
set_option linter.unusedVariables false
def RetSt (Q : Nat → Prop) (B : Nat) (b : Bk) (cd mk : Int) (e : Ending) (w : World) : Prop := ∃ a0 c0 a1 c1, e = .returned (.tuple #[.agg #[.slice a0 b.nr c0, .slice a1 b.ns c1], .int .i64 cd, .int .i64 mk]) ∧ BankV w b a0 a1 ∧ SlP a0 b.nr c0 ∧ SlP a1 b.ns c1 ∧ FrQ Q B w a0 ∧ FrQ Q B w a1
set_option maxRecDepth 100000 in
set_option maxHeartbeats 4000000 in
theorem l08Step_set (Q : Nat → Prop) (b : Bk) (q : Rq) (now : Int) (hk : b.Ok) (g : b.hasR q.x.v) (hnow : now = (b.R (b.kR q.x.v)).c) (k1 : now < 1000000) (k2 : q.x.c = now + 1) (a0 a1 : Option Addr) (c0 c1 : Nat) (z0 : a0 = none → c0 = 0) (z1 : a1 = none → c1 = 0) (w : World) (h : BankV w b a0 a1) :
    Calls Tryd.prog 93 #[.agg #[.slice a0 b.nr c0, .slice a1 b.ns c1], .agg #[.int .i64 q.se, .int .i64 q.sq, .int .i64 q.x.v, .int .i64 q.x.c, .string q.x.r]] w fun e w' => RetSt Q w.heap.size (b.setR q.x) 0 q.x.c e w' ∧ Below w.heap.size w w' := by
  have HV : Hid (BankV w b a0 a1) := h
  have hr := NowIs.range (.inl ⟨g, hnow⟩) hk
  have e0 : IntKind.i64.wrap (now + 1) = now + 1 := IntWalk.i64_in _ (by omega)
  have A1 : Hid (Below w.heap.size w (((w.alloc (.cells #[.slice a0 b.nr c0, .slice a1 b.ns c1] 46)).alloc (.cells #[.int .i64 q.se, .int .i64 q.sq, .int .i64 q.x.v, .int .i64 q.x.c, .string q.x.r] 52)).alloc (.cells #[.slice none 0 0, .slice none 0 0] 46))) := (((Below.refl _ _).alloc (Nat.le_refl _) _).alloc (by simp) _).alloc (by simp; omega) _
  have X : Hid (Box2 (((w.alloc (.cells #[.slice a0 b.nr c0, .slice a1 b.ns c1] 46)).alloc (.cells #[.int .i64 q.se, .int .i64 q.sq, .int .i64 q.x.v, .int .i64 q.x.c, .string q.x.r] 52)).alloc (.cells #[.slice none 0 0, .slice none 0 0] 46)) w.heap.size 46 (.slice a0 b.nr c0) (.slice a1 b.ns c1)) := ((Box2.made _ _ _ _).alloc _).alloc _
  have XQ : Hid (BoxQ (((w.alloc (.cells #[.slice a0 b.nr c0, .slice a1 b.ns c1] 46)).alloc (.cells #[.int .i64 q.se, .int .i64 q.sq, .int .i64 q.x.v, .int .i64 q.x.c, .string q.x.r] 52)).alloc (.cells #[.slice none 0 0, .slice none 0 0] 46)) (w.heap.size + 1) q) := (BoxQ.madeAt (by simp) q).alloc _
  have Y : Hid (Box2 (((w.alloc (.cells #[.slice a0 b.nr c0, .slice a1 b.ns c1] 46)).alloc (.cells #[.int .i64 q.se, .int .i64 q.sq, .int .i64 q.x.v, .int .i64 q.x.c, .string q.x.r] 52)).alloc (.cells #[.slice none 0 0, .slice none 0 0] 46)) (w.heap.size + 2) 46 (.slice none 0 0) (.slice none 0 0)) := Box2.madeAt (by simp) _ _ _
  have hkn := g.1
  have FH : Hid (∀ (w : World), BankV w b a0 a1 → Calls Tryd.prog 113 #[.agg #[.slice a0 b.nr c0, .slice a1 b.ns c1], .int .i64 q.x.v] w fun e w' => e = .returned (.int .i64 ((b.kR q.x.v : Nat) : Int)) ∧ Below w.heap.size w w') := fun w h => l08Find_any b q.x.v _ hk (.inl ⟨g, rfl⟩) a0 a1 c0 c1 w h
  have OW : Hid (∀ (w : World), BankV w b a0 a1 → Calls Tryd.prog 54 #[.agg #[.slice a0 b.nr c0, .slice a1 b.ns c1]] w fun e w' => RetOwn b w.heap.size e w' ∧ Below w.heap.size w w') := fun w h => l08Own_any b a0 a1 c0 c1 (by have := hk.1.1; omega) (by have := hk.2.1; omega) z0 z1 w h
  have K2 : Hid (q.x.c = now + 1) := k2
  have HN : Hid (now = (b.R (b.kR q.x.v)).c) := hnow
  clear h k2 hnow
  go_enter Tryd.func93, Tryd.ntmps93
  go_wp2_with fail
  generalize (((w.alloc (.cells #[.slice a0 b.nr c0, .slice a1 b.ns c1] 46)).alloc (.cells #[.int .i64 q.se, .int .i64 q.sq, .int .i64 q.x.v, .int .i64 q.x.c, .string q.x.r] 52)).alloc (.cells #[.slice none 0 0, .slice none 0 0] 46)) = v at *
  refine (FH.out _ (HV.out.below A1.out)).mono ?_
  rintro e v2 ⟨rfl, hb⟩
  replace A1 : Hid (Below w.heap.size w v2) := A1.out.trans (hb.mono A1.out.size)
  replace X : Hid (Box2 v2 w.heap.size 46 (.slice a0 b.nr c0) (.slice a1 b.ns c1)) := X.out.below hb
  replace XQ : Hid (BoxQ v2 (w.heap.size + 1) q) := XQ.out.below hb
  replace Y : Hid (Box2 v2 (w.heap.size + 2) 46 (.slice none 0 0) (.slice none 0 0)) := Y.out.below hb
  clear hb FH
  have HL : Hid (w.heap.size + 2 < v2.heap.size) := Y.out.lt
  have x0 := X.out.c0
  have x1 := X.out.c1
  have q3 := XQ.out.c3
  obtain ⟨p, off, ha, hcc⟩ := (HV.out.1.below A1.out).opened (by omega)
  obtain ⟨d0, d1, d2⟩ := Els.rgC hcc (b.kR q.x.v) hkn
  rw [← HN.out] at d1
  have KS : Hid (b.setR q.x = { b with R := updE b.R (b.kR q.x.v) q.x }) := rfl
  clear hcc d0 d2 HN
  generalize hu : b.kR q.x.v = K at *
  have hkn' : (K : Int) < (b.nr : Int) := by omega
  have hk0 : ¬ (K : Int) < 0 := by omega
  have hk1 : 0 ≤ (K : Int) := by omega
  have m1 : (now == 1000000) = false := by simp; omega
  have m2 : ¬ q.x.c ≤ now := by have := K2.out; omega
  have m3 : ¬ now + 1 < q.x.c := by have := K2.out; omega
  clear hu hk g z0 z1
  subst ha
  go_wp2_with fail
  refine (OW.out _ (HV.out.below A1.out)).mono ?_
  rintro e v3 ⟨⟨i0, n0, i1, n1, rfl, RE⟩, hb⟩
  replace A1 : Hid (Below w.heap.size w v3) := A1.out.trans (hb.mono A1.out.size)
  replace X : Hid (Box2 v3 w.heap.size 46 (.slice (some ⟨p, off, none⟩) b.nr c0) (.slice a1 b.ns c1)) := X.out.below hb
  replace XQ : Hid (BoxQ v3 (w.heap.size + 1) q) := XQ.out.below hb
  replace Y : Hid (Box2 v3 (w.heap.size + 2) 46 (.slice none 0 0) (.slice none 0 0)) := Y.out.below hb
  have hl2 : w.heap.size + 2 < v2.heap.size := HL.out
  obtain ⟨G0, r0, -⟩ := RE.e0.rowE
  obtain rfl := r0.a (by omega)
  have R0 : Hid (RowE v3 3 (some ⟨G0, 0, none⟩) G0 b.nr (rgF b.R)) := r0
  have lg := r0.lt (by omega) (by omega)
  have hge : w.heap.size + 2 < G0 := by
    have h1 := (RE.e0.ge G0 rfl).1
    omega
  clear hb OW x0 x1 q3 d1
  have l0 := X.out.lt
  have l1 := XQ.out.lt
  have l2 := Y.out.lt
  have q2 := XQ.out.c2
  have q3 := XQ.out.c3
  have q4 := XQ.out.c4
  have t0 := r0.c K hkn 0 (by omega)
  have t1 := r0.c K hkn 1 (by omega)
  have t2 := r0.c K hkn 2 (by omega)
  have u0 := r0.z (K * 3) (by omega)
  have u1 := r0.z (K * 3 + 1) (by omega)
  have u2 := r0.z (K * 3 + 2) (by omega)
  rw [Nat.add_zero] at t0
  have O5 : OnlyB G0 v3 (((v3.setCell ⟨G0, K * 3, none⟩ (.int .i64 q.x.v)).setCell ⟨G0, K * 3 + 1, none⟩ (.int .i64 q.x.c)).setCell ⟨G0, K * 3 + 2, none⟩ (.string q.x.r)) := (((OnlyB.refl _ v3).setCell (K * 3) _).setCell (K * 3 + 1) _).setCell (K * 3 + 2) _
  have sz : (((v3.setCell ⟨G0, K * 3, none⟩ (.int .i64 q.x.v)).setCell ⟨G0, K * 3 + 1, none⟩ (.int .i64 q.x.c)).setCell ⟨G0, K * 3 + 2, none⟩ (.string q.x.r)).heap.size = v3.heap.size := by simp
  have hb5 : Below (((v3.setCell ⟨G0, K * 3, none⟩ (.int .i64 q.x.v)).setCell ⟨G0, K * 3 + 1, none⟩ (.int .i64 q.x.c)).setCell ⟨G0, K * 3 + 2, none⟩ (.string q.x.r)).heap.size (((v3.setCell ⟨G0, K * 3, none⟩ (.int .i64 q.x.v)).setCell ⟨G0, K * 3 + 1, none⟩ (.int .i64 q.x.c)).setCell ⟨G0, K * 3 + 2, none⟩ (.string q.x.r)) (((((v3.setCell ⟨G0, K * 3, none⟩ (.int .i64 q.x.v)).setCell ⟨G0, K * 3 + 1, none⟩ (.int .i64 q.x.c)).setCell ⟨G0, K * 3 + 2, none⟩ (.string q.x.r)).alloc (.cells #[.slice (some ⟨G0, 0, none⟩) b.nr n0, .slice i1 b.ns n1] 46)).alloc (.cells #[.int .i64 q.x.v, .int .i64 q.x.c, .string q.x.r] 54)) := ((Below.refl _ _).alloc (Nat.le_refl _) _).alloc (by simp) _
  have R5 : Hid (RowE (((((v3.setCell ⟨G0, K * 3, none⟩ (.int .i64 q.x.v)).setCell ⟨G0, K * 3 + 1, none⟩ (.int .i64 q.x.c)).setCell ⟨G0, K * 3 + 2, none⟩ (.string q.x.r)).alloc (.cells #[.slice (some ⟨G0, 0, none⟩) b.nr n0, .slice i1 b.ns n1] 46)).alloc (.cells #[.int .i64 q.x.v, .int .i64 q.x.c, .string q.x.r] 54)) 3 (some ⟨G0, 0, none⟩) G0 b.nr (rgF (updE b.R K q.x))) := ((((r0.set K 0 (by omega) (.int .i64 q.x.v)).set K 1 (by omega) (.int .i64 q.x.c)).set K 2 (by omega) (.string q.x.r)).below (by omega) hb5).congr (fun i hi j hj => by
    unfold setF rgF updE
    by_cases ei : i = K
    · subst ei
      rcases (show j = 0 ∨ j = 1 ∨ j = 2 by omega) with rfl | rfl | rfl <;> simp [rgV]
    · simp [ei])
  have S5 : Hid (EO (((((v3.setCell ⟨G0, K * 3, none⟩ (.int .i64 q.x.v)).setCell ⟨G0, K * 3 + 1, none⟩ (.int .i64 q.x.c)).setCell ⟨G0, K * 3 + 2, none⟩ (.string q.x.r)).alloc (.cells #[.slice (some ⟨G0, 0, none⟩) b.nr n0, .slice i1 b.ns n1] 46)).alloc (.cells #[.int .i64 q.x.v, .int .i64 q.x.c, .string q.x.r] 54)) v2.heap.size 100 4 (.slice i1 b.ns n1) b.ns (seF b.S)) := (RE.e1.keep (fun g e => O5.block g (RE.e1.ge g e).2 (fun e2 => RE.n01 G0 rfl (e2 ▸ e)))).below hb5
  have Z5 : Hid (SlP i1 b.ns n1) := RE.e1.slp
  have Z4 : Hid (SlP (some ⟨G0, 0, none⟩) b.nr n0) := RE.e0.slp
  have C5 : Hid (Box2 (((((v3.setCell ⟨G0, K * 3, none⟩ (.int .i64 q.x.v)).setCell ⟨G0, K * 3 + 1, none⟩ (.int .i64 q.x.c)).setCell ⟨G0, K * 3 + 2, none⟩ (.string q.x.r)).alloc (.cells #[.slice (some ⟨G0, 0, none⟩) b.nr n0, .slice i1 b.ns n1] 46)).alloc (.cells #[.int .i64 q.x.v, .int .i64 q.x.c, .string q.x.r] 54)) v3.heap.size 46 (.slice (some ⟨G0, 0, none⟩) b.nr n0) (.slice i1 b.ns n1)) := (Box2.madeAt sz _ _ _).alloc _
  have Q5 : Hid (BoxQ (((((v3.setCell ⟨G0, K * 3, none⟩ (.int .i64 q.x.v)).setCell ⟨G0, K * 3 + 1, none⟩ (.int .i64 q.x.c)).setCell ⟨G0, K * 3 + 2, none⟩ (.string q.x.r)).alloc (.cells #[.slice (some ⟨G0, 0, none⟩) b.nr n0, .slice i1 b.ns n1] 46)).alloc (.cells #[.int .i64 q.x.v, .int .i64 q.x.c, .string q.x.r] 54)) (w.heap.size + 1) q) := (XQ.out.ofBlock (O5.block _ l1 (by omega))).below hb5
  have Y5 : Hid (Box2 (((((v3.setCell ⟨G0, K * 3, none⟩ (.int .i64 q.x.v)).setCell ⟨G0, K * 3 + 1, none⟩ (.int .i64 q.x.c)).setCell ⟨G0, K * 3 + 2, none⟩ (.string q.x.r)).alloc (.cells #[.slice (some ⟨G0, 0, none⟩) b.nr n0, .slice i1 b.ns n1] 46)).alloc (.cells #[.int .i64 q.x.v, .int .i64 q.x.c, .string q.x.r] 54)) (w.heap.size + 2) 46 (.slice none 0 0) (.slice none 0 0)) := (Y.out.ofBlock (O5.block _ l2 (by omega))).below hb5
  have A5 : Hid (Below w.heap.size w (((((v3.setCell ⟨G0, K * 3, none⟩ (.int .i64 q.x.v)).setCell ⟨G0, K * 3 + 1, none⟩ (.int .i64 q.x.c)).setCell ⟨G0, K * 3 + 2, none⟩ (.string q.x.r)).alloc (.cells #[.slice (some ⟨G0, 0, none⟩) b.nr n0, .slice i1 b.ns n1] 46)).alloc (.cells #[.int .i64 q.x.v, .int .i64 q.x.c, .string q.x.r] 54))) := (A1.out.trans (O5.toBelow (by omega) A1.out.size)).trans (hb5.mono (by rw [sz]; exact A1.out.size))
  have GE : Hid (w.heap.size + 2 < G0) := hge
  clear r0 O5 sz hb5 R0 RE A1 X XQ Y HV hge hl2
  go_wp2_with fail
  generalize (((((v3.setCell ⟨G0, K * 3, none⟩ (.int .i64 q.x.v)).setCell ⟨G0, K * 3 + 1, none⟩ (.int .i64 q.x.c)).setCell ⟨G0, K * 3 + 2, none⟩ (.string q.x.r)).alloc (.cells #[.slice (some ⟨G0, 0, none⟩) b.nr n0, .slice i1 b.ns n1] 46)).alloc (.cells #[.int .i64 q.x.v, .int .i64 q.x.c, .string q.x.r] 54)) = v5 at *
  clear t0 t1 t2 u0 u1 u2 q2 q3 q4 l0 l1 l2 lg m1 m2 m3
  have b0 := C5.out.c0
  have b1 := C5.out.c1
  have q3 := Q5.out.c3
  have y0 := Y5.out.c0
  have y1 := Y5.out.c1
  have f0 := Y5.out.fr 0
  have f1 := Y5.out.fr 1
  have O6 : OnlyB (w.heap.size + 2) v5 ((v5.setCell ⟨w.heap.size + 1 + 1, 0, none⟩ (.slice (some ⟨G0, 0, none⟩) b.nr n0)).setCell ⟨w.heap.size + 1 + 1, 1, none⟩ (.slice i1 b.ns n1)) := ((OnlyB.refl _ v5).setCell 0 _).setCell 1 _
  have D6 : Below ((v5.setCell ⟨w.heap.size + 1 + 1, 0, none⟩ (.slice (some ⟨G0, 0, none⟩) b.nr n0)).setCell ⟨w.heap.size + 1 + 1, 1, none⟩ (.slice i1 b.ns n1)).heap.size ((v5.setCell ⟨w.heap.size + 1 + 1, 0, none⟩ (.slice (some ⟨G0, 0, none⟩) b.nr n0)).setCell ⟨w.heap.size + 1 + 1, 1, none⟩ (.slice i1 b.ns n1)) ((v5.setCell ⟨w.heap.size + 1 + 1, 0, none⟩ (.slice (some ⟨G0, 0, none⟩) b.nr n0)).setCell ⟨w.heap.size + 1 + 1, 1, none⟩ (.slice i1 b.ns n1)).drew := (Below.refl _ _).drew
  have R6 : Hid (Els ((v5.setCell ⟨w.heap.size + 1 + 1, 0, none⟩ (.slice (some ⟨G0, 0, none⟩) b.nr n0)).setCell ⟨w.heap.size + 1 + 1, 1, none⟩ (.slice i1 b.ns n1)).drew 3 (some ⟨G0, 0, none⟩) b.nr (rgF (updE b.R K q.x))) := ((R5.out.onlyB (by omega) O6 (fun _ => by have := GE.out; omega)).below (by omega) D6).els
  have S6 : Hid (Els ((v5.setCell ⟨w.heap.size + 1 + 1, 0, none⟩ (.slice (some ⟨G0, 0, none⟩) b.nr n0)).setCell ⟨w.heap.size + 1 + 1, 1, none⟩ (.slice i1 b.ns n1)).drew 4 i1 b.ns (seF b.S)) := ((S5.out.onlyB O6 HL.out).below D6).els
  have B6 : Hid (Box2 ((v5.setCell ⟨w.heap.size + 1 + 1, 0, none⟩ (.slice (some ⟨G0, 0, none⟩) b.nr n0)).setCell ⟨w.heap.size + 1 + 1, 1, none⟩ (.slice i1 b.ns n1)).drew (w.heap.size + 2) 46 (.slice (some ⟨G0, 0, none⟩) b.nr n0) (.slice i1 b.ns n1)) := ((Y5.out.set0 _).set1 _).below D6
  have A6 : Hid (Below w.heap.size w ((v5.setCell ⟨w.heap.size + 1 + 1, 0, none⟩ (.slice (some ⟨G0, 0, none⟩) b.nr n0)).setCell ⟨w.heap.size + 1 + 1, 1, none⟩ (.slice i1 b.ns n1)).drew) := (A5.out.trans (O6.toBelow (by omega) A5.out.size)).drew
  have FQ0 : Hid (FrQ Q w.heap.size ((v5.setCell ⟨w.heap.size + 1 + 1, 0, none⟩ (.slice (some ⟨G0, 0, none⟩) b.nr n0)).setCell ⟨w.heap.size + 1 + 1, 1, none⟩ (.slice i1 b.ns n1)).drew (some ⟨G0, 0, none⟩)) := fun p e => by
    cases e
    have h1 := GE.out
    have h2 := R5.out.lt (by omega) (by omega)
    refine .inr ⟨by show w.heap.size ≤ G0; omega, ?_⟩
    show G0 < ((v5.setCell _ _).setCell _ _).heap.size
    simp
    exact h2
  have FQ1 : Hid (FrQ Q w.heap.size ((v5.setCell ⟨w.heap.size + 1 + 1, 0, none⟩ (.slice (some ⟨G0, 0, none⟩) b.nr n0)).setCell ⟨w.heap.size + 1 + 1, 1, none⟩ (.slice i1 b.ns n1)).drew i1) := S5.out.fresh (by have := HL.out; omega) Q (by show v5.heap.size ≤ ((v5.setCell _ _).setCell _ _).heap.size; simp)
  clear O6 D6 R5 S5 GE HL
  go_region
  generalize ((v5.setCell ⟨w.heap.size + 1 + 1, 0, none⟩ (.slice (some ⟨G0, 0, none⟩) b.nr n0)).setCell ⟨w.heap.size + 1 + 1, 1, none⟩ (.slice i1 b.ns n1)).drew = v6 at *
  clear b0 b1 q3 y0 y1 f0 f1 Y5 A5 C5 Q5
  go_wp2
  exact ret_cellTT (b := w.heap.size + 2) Tryd.results93 rfl rfl rfl (Box2.loadbk B6.out) ⟨⟨_, _, _, _, rfl, ⟨by rw [KS.out]; exact R6.out, S6.out⟩, Z4.out, Z5.out, FQ0.out, FQ1.out⟩, A6.out⟩
end Go.Proofs.YtpngjkhncfbnpaaDoor
