/-
  Texts of the proof, joined: BankSt.
-/
import Derived.Test.YtpngjkhncfbnpaaDoorR34
namespace Go.Proofs.YtpngjkhncfbnpaaDoor
open Go.ChangeShapes Go.WideShapes Go.ChangeAt Go.RowKit
set_option linter.unusedVariables false
theorem ret_cellTT {P : Program} {fn : Func} {p u u2 : Tmp} {ty : TypeId} {tmps : Array Value} {w : World} {b : Nat} {v x x2 : Value} {Post : Ending → World → Prop} (h : fn.results = #[.cell p ty, .tmp u, .tmp u2]) (hp : tmps.getD p undef = .pointer (some ⟨b, 0, none⟩)) (hu : tmps.getD u undef = x) (hu2 : tmps.getD u2 undef = x2) (hl : (loadVar ty ⟨b, 0, none⟩).run P w = .ok v w) (hq : Post (.returned (.tuple #[v, x, x2])) w) : bodyPost P fn Post .ret { tmps := tmps, defers := [] } w := by
  refine bodyPost_ret (v := .tuple #[v, x, x2]) ?_ rfl hq
  simp only [Array.getD_eq_getD_getElem?] at hp hu hu2
  unfold results
  rw [h]
  simp [hp, hu, hu2, asAddr, hl, Result.andThen]
def BoxQ (w : World) (p : Nat) (q : Rq) : Prop := w.rowIs p 52 5 (fun i => if i = 0 then .int .i64 q.se else if i = 1 then .int .i64 q.sq else if i = 2 then .int .i64 q.x.v else if i = 3 then .int .i64 q.x.c else .string q.x.r)
theorem BoxQ.c0 {w : World} {p : Nat} {q : Rq} (h : BoxQ w p q) : w.cell? ⟨p, 0, none⟩ = some (.int .i64 q.se) := World.rowIs.cell h (i := 0) (by omega)
theorem BoxQ.c1 {w : World} {p : Nat} {q : Rq} (h : BoxQ w p q) : w.cell? ⟨p, 1, none⟩ = some (.int .i64 q.sq) := World.rowIs.cell h (i := 1) (by omega)
theorem BoxQ.c2 {w : World} {p : Nat} {q : Rq} (h : BoxQ w p q) : w.cell? ⟨p, 2, none⟩ = some (.int .i64 q.x.v) := World.rowIs.cell h (i := 2) (by omega)
theorem BoxQ.c3 {w : World} {p : Nat} {q : Rq} (h : BoxQ w p q) : w.cell? ⟨p, 3, none⟩ = some (.int .i64 q.x.c) := World.rowIs.cell h (i := 3) (by omega)
theorem BoxQ.c4 {w : World} {p : Nat} {q : Rq} (h : BoxQ w p q) : w.cell? ⟨p, 4, none⟩ = some (.string q.x.r) := World.rowIs.cell h (i := 4) (by omega)
theorem BoxQ.lt {w : World} {p : Nat} {q : Rq} (h : BoxQ w p q) : p < w.heap.size := World.rowIs.lt h
theorem BoxQ.ofBlock {w w' : World} {p : Nat} {q : Rq} (h : BoxQ w p q) (e : w'.heap[p]? = w.heap[p]?) : BoxQ w' p q := World.rowIs.of_block h e
theorem BoxQ.below {w w' : World} {p : Nat} {q : Rq} (h : BoxQ w p q) (hb : Below w.heap.size w w') : BoxQ w' p q := h.ofBlock (hb.block p h.lt)
theorem BoxQ.alloc {w : World} {p : Nat} {q : Rq} (h : BoxQ w p q) (o : Obj) : BoxQ (w.alloc o) p q := World.rowIs.alloc h o
theorem BoxQ.madeAt {w : World} {p : Nat} (hp : w.heap.size = p) (q : Rq) : BoxQ (w.alloc (.cells #[.int .i64 q.se, .int .i64 q.sq, .int .i64 q.x.v, .int .i64 q.x.c, .string q.x.r] 52)) p q := by
  subst hp
  exact World.rowIs_alloc w #[.int .i64 q.se, .int .i64 q.sq, .int .i64 q.x.v, .int .i64 q.x.c, .string q.x.r] 52 _ (fun i hi => by
    rcases (show i = 0 ∨ i = 1 ∨ i = 2 ∨ i = 3 ∨ i = 4 by simp at hi; omega) with rfl | rfl | rfl | rfl | rfl <;> rfl)
theorem Box2.loadbk {w : World} {b : Nat} {x y : Value} (h : Box2 w b 46 x y) : (loadVar 46 ⟨b, 0, none⟩).run Tryd.prog w = .ok (.agg #[x, y]) w := by
  have h0 := h.c0
  have h1 := h.c1
  go_simp
def NoIs (b : Bk) (x : Rg) (now cd : Int) : Prop := (now = 1000000 ∧ cd = 19) ∨ (now < 1000000 ∧ x.c ≤ now ∧ cd = 11) ∨ (now < 1000000 ∧ now + 1 < x.c ∧ cd = 15) ∨ (now < 1000000 ∧ x.c = now + 1 ∧ ¬ b.hasR x.v ∧ b.nr = 6 ∧ cd = 7)
set_option maxRecDepth 100000 in
set_option maxHeartbeats 4000000 in
theorem l08Step_no (b : Bk) (q : Rq) (now cd : Int) (hk : b.Ok) (hn : NowIs b q.x.v now) (hc : NoIs b q.x now cd) (a0 a1 : Option Addr) (c0 c1 : Nat) (w : World) (h : BankV w b a0 a1) :
    Calls Tryd.prog 93 #[.agg #[.slice a0 b.nr c0, .slice a1 b.ns c1], .agg #[.int .i64 q.se, .int .i64 q.sq, .int .i64 q.x.v, .int .i64 q.x.c, .string q.x.r]] w fun e w' => e = .returned (.tuple #[.agg #[.slice a0 b.nr c0, .slice a1 b.ns c1], .int .i64 cd, .int .i64 now]) ∧ Below w.heap.size w w' := by
  have HV : Hid (BankV w b a0 a1) := h
  have hr := hn.range hk
  have e0 : IntKind.i64.wrap (now + 1) = now + 1 := IntWalk.i64_in _ (by omega)
  have A1 : Hid (Below w.heap.size w (((w.alloc (.cells #[.slice a0 b.nr c0, .slice a1 b.ns c1] 46)).alloc (.cells #[.int .i64 q.se, .int .i64 q.sq, .int .i64 q.x.v, .int .i64 q.x.c, .string q.x.r] 52)).alloc (.cells #[.slice none 0 0, .slice none 0 0] 46))) := (((Below.refl _ _).alloc (Nat.le_refl _) _).alloc (by simp) _).alloc (by simp; omega) _
  have X : Hid (Box2 (((w.alloc (.cells #[.slice a0 b.nr c0, .slice a1 b.ns c1] 46)).alloc (.cells #[.int .i64 q.se, .int .i64 q.sq, .int .i64 q.x.v, .int .i64 q.x.c, .string q.x.r] 52)).alloc (.cells #[.slice none 0 0, .slice none 0 0] 46)) w.heap.size 46 (.slice a0 b.nr c0) (.slice a1 b.ns c1)) := ((Box2.made _ _ _ _).alloc _).alloc _
  have XQ : Hid (BoxQ (((w.alloc (.cells #[.slice a0 b.nr c0, .slice a1 b.ns c1] 46)).alloc (.cells #[.int .i64 q.se, .int .i64 q.sq, .int .i64 q.x.v, .int .i64 q.x.c, .string q.x.r] 52)).alloc (.cells #[.slice none 0 0, .slice none 0 0] 46)) (w.heap.size + 1) q) := (BoxQ.madeAt (by simp) q).alloc _
  have Y : Hid (Box2 (((w.alloc (.cells #[.slice a0 b.nr c0, .slice a1 b.ns c1] 46)).alloc (.cells #[.int .i64 q.se, .int .i64 q.sq, .int .i64 q.x.v, .int .i64 q.x.c, .string q.x.r] 52)).alloc (.cells #[.slice none 0 0, .slice none 0 0] 46)) (w.heap.size + 2) 46 (.slice none 0 0) (.slice none 0 0)) := Box2.madeAt (by simp) _ _ _
  have HC : Hid (NoIs b q.x now cd) := hc
  clear h hc
  rcases hn with ⟨g, hnow⟩ | ⟨g, hnow⟩
  · have hkn := g.1
    have FH : Hid (∀ (w : World), BankV w b a0 a1 → Calls Tryd.prog 113 #[.agg #[.slice a0 b.nr c0, .slice a1 b.ns c1], .int .i64 q.x.v] w fun e w' => e = .returned (.int .i64 ((b.kR q.x.v : Nat) : Int)) ∧ Below w.heap.size w w') := fun w h => l08Find_any b q.x.v _ hk (.inl ⟨g, rfl⟩) a0 a1 c0 c1 w h
    go_enter Tryd.func93, Tryd.ntmps93
    go_wp2_with fail
    generalize (((w.alloc (.cells #[.slice a0 b.nr c0, .slice a1 b.ns c1] 46)).alloc (.cells #[.int .i64 q.se, .int .i64 q.sq, .int .i64 q.x.v, .int .i64 q.x.c, .string q.x.r] 52)).alloc (.cells #[.slice none 0 0, .slice none 0 0] 46)) = v at *
    refine (FH.out _ (HV.out.below A1.out)).mono ?_
    rintro e v2 ⟨rfl, hb⟩
    replace A1 : Hid (Below w.heap.size w v2) := A1.out.trans (hb.mono A1.out.size)
    replace X : Hid (Box2 v2 w.heap.size 46 (.slice a0 b.nr c0) (.slice a1 b.ns c1)) := X.out.below hb
    replace XQ : Hid (BoxQ v2 (w.heap.size + 1) q) := XQ.out.below hb
    replace Y : Hid (Box2 v2 (w.heap.size + 2) 46 (.slice none 0 0) (.slice none 0 0)) := Y.out.below hb
    clear hb FH
    have x0 := X.out.c0
    have x1 := X.out.c1
    have q3 := XQ.out.c3
    have y0 := Y.out.c0
    have y1 := Y.out.c1
    have f0 := Y.out.fr 0
    have f1 := Y.out.fr 1
    obtain ⟨p, off, rfl, hcc⟩ := (HV.out.1.below A1.out).opened (by omega)
    obtain ⟨d0, d1, d2⟩ := Els.rgC hcc (b.kR q.x.v) hkn
    rw [← hnow] at d1
    clear hcc d0 d2 hnow HV
    generalize hu : b.kR q.x.v = K at *
    have hkn' : (K : Int) < (b.nr : Int) := by omega
    have hk0 : ¬ (K : Int) < 0 := by omega
    have hk1 : 0 ≤ (K : Int) := by omega
    clear hu
    rcases HC.out with ⟨k1, rfl⟩ | ⟨k1, k2, rfl⟩ | ⟨k1, k2, rfl⟩ | ⟨k1, k2, k3, k4, rfl⟩
    · have m1 : (now == 1000000) = true := by simp; omega
      subst k1
      clear HC hk g
      go_wp2
      exact ret_cellTT (b := w.heap.size + 2) Tryd.results93 rfl rfl rfl (Box2.loadbk ((Y.out.set0 _).set1 _)) ⟨rfl, (A1.out.setCell (by show w.heap.size ≤ w.heap.size + 2; omega) _).setCell (by show w.heap.size ≤ w.heap.size + 2; omega) _⟩
    · have m1 : (now == 1000000) = false := by simp; omega
      clear HC hk g
      go_wp2
      exact ret_cellTT (b := w.heap.size + 2) Tryd.results93 rfl rfl rfl (Box2.loadbk ((Y.out.set0 _).set1 _)) ⟨rfl, (A1.out.setCell (by show w.heap.size ≤ w.heap.size + 2; omega) _).setCell (by show w.heap.size ≤ w.heap.size + 2; omega) _⟩
    · have m1 : (now == 1000000) = false := by simp; omega
      have m2 : ¬ q.x.c ≤ now := by omega
      clear HC hk g
      go_wp2
      exact ret_cellTT (b := w.heap.size + 2) Tryd.results93 rfl rfl rfl (Box2.loadbk ((Y.out.set0 _).set1 _)) ⟨rfl, (A1.out.setCell (by show w.heap.size ≤ w.heap.size + 2; omega) _).setCell (by show w.heap.size ≤ w.heap.size + 2; omega) _⟩
    · exact absurd g k3
  · subst hnow
    have FH : Hid (∀ (w : World), BankV w b a0 a1 → Calls Tryd.prog 113 #[.agg #[.slice a0 b.nr c0, .slice a1 b.ns c1], .int .i64 q.x.v] w fun e w' => e = .returned (.int .i64 (-1)) ∧ Below w.heap.size w w') := fun w h => l08Find_any b q.x.v _ hk (.inr ⟨g, rfl⟩) a0 a1 c0 c1 w h
    go_enter Tryd.func93, Tryd.ntmps93
    go_wp2_with fail
    generalize (((w.alloc (.cells #[.slice a0 b.nr c0, .slice a1 b.ns c1] 46)).alloc (.cells #[.int .i64 q.se, .int .i64 q.sq, .int .i64 q.x.v, .int .i64 q.x.c, .string q.x.r] 52)).alloc (.cells #[.slice none 0 0, .slice none 0 0] 46)) = v at *
    refine (FH.out _ (HV.out.below A1.out)).mono ?_
    rintro e v2 ⟨rfl, hb⟩
    replace A1 : Hid (Below w.heap.size w v2) := A1.out.trans (hb.mono A1.out.size)
    replace X : Hid (Box2 v2 w.heap.size 46 (.slice a0 b.nr c0) (.slice a1 b.ns c1)) := X.out.below hb
    replace XQ : Hid (BoxQ v2 (w.heap.size + 1) q) := XQ.out.below hb
    replace Y : Hid (Box2 v2 (w.heap.size + 2) 46 (.slice none 0 0) (.slice none 0 0)) := Y.out.below hb
    clear hb FH
    have x0 := X.out.c0
    have x1 := X.out.c1
    have q3 := XQ.out.c3
    have y0 := Y.out.c0
    have y1 := Y.out.c1
    have f0 := Y.out.fr 0
    have f1 := Y.out.fr 1
    clear HV
    rcases HC.out with ⟨k1, rfl⟩ | ⟨k1, k2, rfl⟩ | ⟨k1, k2, rfl⟩ | ⟨k1, k2, k3, k4, rfl⟩
    · exact absurd k1 (by omega)
    · clear HC hk g
      go_wp2
      exact ret_cellTT (b := w.heap.size + 2) Tryd.results93 rfl rfl rfl (Box2.loadbk ((Y.out.set0 _).set1 _)) ⟨rfl, (A1.out.setCell (by show w.heap.size ≤ w.heap.size + 2; omega) _).setCell (by show w.heap.size ≤ w.heap.size + 2; omega) _⟩
    · have m2 : ¬ q.x.c ≤ 0 := by omega
      have m3 : 1 < q.x.c := by omega
      clear HC hk g
      go_wp2
      exact ret_cellTT (b := w.heap.size + 2) Tryd.results93 rfl rfl rfl (Box2.loadbk ((Y.out.set0 _).set1 _)) ⟨rfl, (A1.out.setCell (by show w.heap.size ≤ w.heap.size + 2; omega) _).setCell (by show w.heap.size ≤ w.heap.size + 2; omega) _⟩
    · have m4 : ((b.nr : Int) == 6) = true := by simp; omega
      clear k3 k4
      clear HC hk g
      go_wp2
      exact ret_cellTT (b := w.heap.size + 2) Tryd.results93 rfl rfl rfl (Box2.loadbk ((Y.out.set0 _).set1 _)) ⟨rfl, (A1.out.setCell (by show w.heap.size ≤ w.heap.size + 2; omega) _).setCell (by show w.heap.size ≤ w.heap.size + 2; omega) _⟩
end Go.Proofs.YtpngjkhncfbnpaaDoor
