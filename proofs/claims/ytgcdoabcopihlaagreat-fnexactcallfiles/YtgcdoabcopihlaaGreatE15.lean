/-
  Calls and replies in the laws: sizes, copies, comparisons.
-/
import Derived.Test.YtgcdoabcopihlaaGreatE08
import Derived.Test.YtgcdoabcopihlaaGreatE10
import Derived.Test.YtgcdoabcopihlaaGreatE13
import Derived.Test.YtgcdoabcopihlaaGreatE14
import Derived.ProofKit
import Derived.OpenShut
import Derived.ShutString
import Derived.ChangeOld
import Derived.Below
import Derived.Carry
import Derived.ChangeSame
import Derived.Deep.Slices
import Derived.Deep.SlicePairs
import Derived.Deep.Grids
namespace Go.Proofs.YtgcdoabcopihlaaGreat
open Go.ChangeShapes Go.WideShapes Go.ChangeAt Go.RowKit
set_option linter.unusedVariables false
/-- A call among the laws' own, in a variable. -/
def FclL (w : World) (p : Nat) (x : Fcl) : Prop := w.rowIs p 36 6 (fclV x)
theorem FclL.c {w : World} {p : Nat} {x : Fcl} (h : FclL w p x) : w.cell? ⟨p, 0, none⟩ = some (.int .i64 x.k) ∧ w.cell? ⟨p, 1, none⟩ = some (.int .i64 x.a) ∧ w.cell? ⟨p, 2, none⟩ = some (.int .i64 x.n) ∧ w.cell? ⟨p, 3, none⟩ = some (.string x.p) ∧ w.cell? ⟨p, 4, none⟩ = some (.string x.o) ∧ w.cell? ⟨p, 5, none⟩ = some (.string x.d) := ⟨World.rowIs.cell h (i := 0) (by omega), World.rowIs.cell h (i := 1) (by omega), World.rowIs.cell h (i := 2) (by omega), World.rowIs.cell h (i := 3) (by omega), World.rowIs.cell h (i := 4) (by omega), World.rowIs.cell h (i := 5) (by omega)⟩
theorem FclL.lt {w : World} {p : Nat} {x : Fcl} (h : FclL w p x) : p < w.heap.size := World.rowIs.lt h
theorem FclL.ofBlock {w w' : World} {p : Nat} {x : Fcl} (h : FclL w p x) (e : w'.heap[p]? = w.heap[p]?) : FclL w' p x := World.rowIs.of_block h e
theorem FclL.below {w w' : World} {p : Nat} {x : Fcl} (h : FclL w p x) (hb : Below w.heap.size w w') : FclL w' p x := h.ofBlock (hb.block p h.lt)
theorem FclL.madeOf {w : World} {p : Nat} {x : Fcl} (hp : w.heap.size = p) : FclL (w.alloc (.cells #[.int .i64 x.k, .int .i64 x.a, .int .i64 x.n, .string x.p, .string x.o, .string x.d] 36)) p x := by
  subst hp
  exact World.rowIs_alloc w _ _ _ (fun i hi => by
    rcases (show i = 0 ∨ i = 1 ∨ i = 2 ∨ i = 3 ∨ i = 4 ∨ i = 5 by simp at hi; omega) with rfl | rfl | rfl | rfl | rfl | rfl <;> rfl)
set_option maxRecDepth 100000 in
set_option maxHeartbeats 2000000 in
theorem szFileCall_x (x : Fcl) (y : Int) (w : World) (h0 : 0 ≤ y) (h1 : y ≤ 1048576) (hp : x.p.size ≤ maxLen) (ho : x.o.size ≤ maxLen) (hd : x.d.size ≤ maxLen) :
    Calls Tryz.prog 12 #[.agg #[.int .i64 x.k, .int .i64 x.a, .int .i64 x.n, .string x.p, .string x.o, .string x.d], .int .i64 y] w fun e w' => (∃ z : Int, e = .returned (.int .i64 z) ∧ z ≤ 1048576 ∧ (0 ≤ z → x.p.size ≤ 1048576 ∧ x.o.size ≤ 1048576 ∧ x.d.size ≤ 1048576)) ∧ Below w.heap.size w w' := by
  unfold maxLen at hp ho hd
  obtain ⟨xk, xa, xn, xp, xo, xd⟩ := x
  dsimp only at *
  have A1 : Hid (Below w.heap.size w (w.alloc (.cells #[.int .i64 xk, .int .i64 xa, .int .i64 xn, .string xp, .string xo, .string xd] 36))) := (Below.refl _ _).alloc (Nat.le_refl _) _
  have HN : Hid (∃ z : Int, Ending.returned (.int .i64 (-1)) = .returned (.int .i64 z) ∧ z ≤ 1048576 ∧ (0 ≤ z → xp.size ≤ 1048576 ∧ xo.size ≤ 1048576 ∧ xd.size ≤ 1048576)) := ⟨-1, rfl, by omega, fun h => by omega⟩
  by_cases p0 : y - (xp.size : Int) < 0
  · go_enter Tryz.func12, Tryz.ntmps12
    go_wp2
    go_ret
    exact ⟨HN.out, A1.out⟩
  · by_cases p1 : y - (xp.size : Int) - (xo.size : Int) < 0
    · go_enter Tryz.func12, Tryz.ntmps12
      go_wp2
      go_ret
      exact ⟨HN.out, A1.out⟩
    · by_cases p2 : y - (xp.size : Int) - (xo.size : Int) - (xd.size : Int) < 0
      · go_enter Tryz.func12, Tryz.ntmps12
        go_wp2
        go_ret
        exact ⟨HN.out, A1.out⟩
      · have HY : Hid (y - (xp.size : Int) - (xo.size : Int) - (xd.size : Int) ≤ 1048576 ∧ xp.size ≤ 1048576 ∧ xo.size ≤ 1048576 ∧ xd.size ≤ 1048576) := by
          refine ⟨?_, ?_, ?_, ?_⟩ <;> omega
        go_enter Tryz.func12, Tryz.ntmps12
        go_wp2
        go_ret
        exact ⟨⟨_, rfl, HY.out.1, fun _ => HY.out.2⟩, A1.out⟩
set_option maxRecDepth 100000 in
set_option maxHeartbeats 2000000 in
theorem toFileCall_any (x : Fcl) (w : World) :
    Calls Tryz.prog 14 #[.agg #[.int .i64 x.k, .int .i64 x.a, .int .i64 x.n, .string x.p, .string x.o, .string x.d]] w fun e w' => e = .returned (.agg #[.int .i64 x.k, .int .i64 x.a, .int .i64 x.n, .string x.p, .string x.o, .string x.d]) ∧ Below w.heap.size w w' := by
  obtain ⟨xk, xa, xn, xp, xo, xd⟩ := x
  dsimp only at *
  obtain ⟨V, hV⟩ : ∃ V, V = (((w.alloc (.cells #[.int .i64 xk, .int .i64 xa, .int .i64 xn, .string xp, .string xo, .string xd] 36)).alloc (.cells #[.int .i64 xk, .int .i64 xa, .int .i64 xn, .string xp, .string xo, .string xd] 26)).alloc (.cells #[.int .i64 xk, .int .i64 xa, .int .i64 xn, .string xp, .string xo, .string xd] 26)) := ⟨_, rfl⟩
  have HV : Hid ((((w.alloc (.cells #[.int .i64 xk, .int .i64 xa, .int .i64 xn, .string xp, .string xo, .string xd] 36)).alloc (.cells #[.int .i64 xk, .int .i64 xa, .int .i64 xn, .string xp, .string xo, .string xd] 26)).alloc (.cells #[.int .i64 xk, .int .i64 xa, .int .i64 xn, .string xp, .string xo, .string xd] 26)) = V) := hV.symm
  have A1 : Hid (Below w.heap.size w V) := by show Below _ _ _; rw [hV]; exact (((Below.refl _ _).alloc (Nat.le_refl _) _).alloc (by simp) _).alloc (by simp; omega) _
  have XB : Hid (FclB V (w.heap.size + 1) ⟨xk, xa, xn, xp, xo, xd⟩) := by
    show FclB _ _ _
    rw [hV]
    exact (FclB.madeOf (x := ⟨xk, xa, xn, xp, xo, xd⟩) (by simp)).below ((Below.refl _ _).alloc (Nat.le_refl _) _)
  clear hV
  go_enter Tryz.func14, Tryz.ntmps14
  go_wp2
  rw [HV.out]
  obtain ⟨x0, x1, x2, x3, x4, x5⟩ := XB.out.c
  dsimp only at x0 x1 x2 x3 x4 x5
  exact ret_cell (b := w.heap.size + 1) (v := .agg #[.int .i64 xk, .int .i64 xa, .int .i64 xn, .string xp, .string xo, .string xd]) Tryz.results14 rfl (by go_simp) ⟨rfl, A1.out⟩
set_option maxRecDepth 100000 in
theorem eqVr_yes (c : Int) (t : ByteArray) (w : World) : Calls Tryz.prog 16 #[.agg #[.int .i64 c, .string t], .agg #[.int .i64 c, .string t]] w fun e w' => e = .returned (.bool true) ∧ Below w.heap.size w w' := by
  have A1 : Hid (Below w.heap.size w ((w.alloc (.cells #[.int .i64 c, .string t] 29)).alloc (.cells #[.int .i64 c, .string t] 29))) := ((Below.refl _ _).alloc (Nat.le_refl _) _).alloc (by simp) _
  have e1 : (c != c) = false := by simp
  have e2 : (t.toList != t.toList) = false := by simp
  go_enter Tryz.func16, Tryz.ntmps16
  go_wp2
  go_ret
  exact ⟨rfl, A1.out⟩
end Go.Proofs.YtgcdoabcopihlaaGreat

/-
  The exact law of CallFiles (written by tools/mkcfl.py).
-/
namespace Go.Proofs.YtgcdoabcopihlaaGreat
open Go.ChangeShapes Go.WideShapes Go.ChangeAt Go.RowKit
set_option linter.unusedVariables false
/-- A block is there. -/
def LtS (g : Nat) (w : World) : Prop := g < w.heap.size
theorem LtS.below {g : Nat} {w w' : World} (h : LtS g w) (hb : Below w.heap.size w w') : LtS g w' := Nat.lt_of_lt_of_le h hb.size
theorem CfIs.bound {n : Nat} {F : Nat → Fi} {x : Fcl} {m : Nat} {G : Nat → Fi} {t : ByteArray} {c d : Int} (h : CfIs n F x m G t c d) : m ≤ 12 := by
  rcases h with ⟨_, rfl, _⟩ | ⟨_, ⟨_, rfl, _⟩ | ⟨b, _, h⟩⟩
  · omega
  · omega
  · exact (h.keeps b).1
set_option maxRecDepth 100000 in
set_option maxHeartbeats 8000000 in
theorem law_callFiles (a : Option Addr) (n c : Nat) (FI : Nat → Fi) (x : Fcl) (hm : n ≤ maxLen) (hf : ∀ i, i < n → (FI i).p.size ≤ maxLen ∧ (FI i).t.size ≤ maxLen) (hzp : x.p.size ≤ maxLen) (hzo : x.o.size ≤ maxLen) (hzd : x.d.size ≤ maxLen) (w : World) (h : Els w 3 a n (fiF FI)) :
    Calls Tryz.prog 4 #[.slice a n c, .agg #[.int .i64 x.k, .int .i64 x.a, .int .i64 x.n, .string x.p, .string x.o, .string x.d]] w fun e w' => e = .returned (.bool true) ∧ Below w.heap.size w w' := by
  have SZ : Hid (∀ w : World, Els w 3 a n (fiF FI) → Calls Tryz.prog 11 #[.slice a n c, .int .i64 1048576] w fun e w' => (∃ y : Int, e = .returned (.int .i64 y) ∧ y ≤ 1048576 ∧ (0 ≤ y → n ≤ 1048576 ∧ ∀ i, i < n → (FI i).p.size ≤ 1048576 ∧ (FI i).t.size ≤ 1048576)) ∧ Below w.heap.size w w') := fun w h => szFileS_any a n c FI 1048576 w h (by omega) (by omega) hm hf
  have SC : Hid (∀ (y : Int) (w : World), 0 ≤ y → y ≤ 1048576 → Calls Tryz.prog 12 #[.agg #[.int .i64 x.k, .int .i64 x.a, .int .i64 x.n, .string x.p, .string x.o, .string x.d], .int .i64 y] w fun e w' => (∃ z : Int, e = .returned (.int .i64 z) ∧ z ≤ 1048576 ∧ (0 ≤ z → x.p.size ≤ 1048576 ∧ x.o.size ≤ 1048576 ∧ x.d.size ≤ 1048576)) ∧ Below w.heap.size w w') := fun y w h0 h1 => szFileCall_x x y w h0 h1 hzp hzo hzd
  have TC : Hid (∀ w : World, Calls Tryz.prog 14 #[.agg #[.int .i64 x.k, .int .i64 x.a, .int .i64 x.n, .string x.p, .string x.o, .string x.d]] w fun e w' => e = .returned (.agg #[.int .i64 x.k, .int .i64 x.a, .int .i64 x.n, .string x.p, .string x.o, .string x.d]) ∧ Below w.heap.size w w') := fun w => toFileCall_any x w
  have EV : Hid (∀ (cd : Int) (t : ByteArray) (w : World), Calls Tryz.prog 16 #[.agg #[.int .i64 cd, .string t], .agg #[.int .i64 cd, .string t]] w fun e w' => e = .returned (.bool true) ∧ Below w.heap.size w w') := eqVr_yes
  have A1 : Hid (Below w.heap.size w (w.alloc (.cells #[.int .i64 x.k, .int .i64 x.a, .int .i64 x.n, .string x.p, .string x.o, .string x.d] 36))) := (Below.refl _ _).alloc (Nat.le_refl _) _
  have HE : Hid (Els w 3 a n (fiF FI)) := h
  have XL : Hid (FclL (w.alloc (.cells #[.int .i64 x.k, .int .i64 x.a, .int .i64 x.n, .string x.p, .string x.o, .string x.d] 36)) w.heap.size x) := FclL.madeOf (x := x) rfl
  clear h hm hf hzp hzo hzd
  go_enter Tryz.func4, Tryz.ntmps4
  go_wp2_with fail
  generalize (w.alloc (.cells #[.int .i64 x.k, .int .i64 x.a, .int .i64 x.n, .string x.p, .string x.o, .string x.d] 36)) = v0 at *
  go_wp2_with fail
  refine (SZ.out _ (HE.out.below A1.out)).mono ?_
  rintro e v1 ⟨⟨y, rfl, hy, hy2⟩, hb⟩
  replace A1 : Hid (Below w.heap.size w v1) := A1.out.trans (hb.mono A1.out.size)
  replace XL : Hid (FclL v1 w.heap.size x) := XL.out.below hb
  clear hb SZ
  by_cases hy0 : y < 0
  · clear hy2
    go_wp2
    go_ret
    exact ⟨rfl, A1.out⟩
  · obtain ⟨hn, hsz⟩ := hy2 (by omega)
    clear hy2
    obtain ⟨x0, x1, x2, x3, x4, x5⟩ := XL.out.c
    go_wp2_with fail
    refine (SC.out _ _ (by omega) hy).mono ?_
    rintro e v2 ⟨⟨z, rfl, hz, hz2⟩, hb⟩
    replace A1 : Hid (Below w.heap.size w v2) := A1.out.trans (hb.mono A1.out.size)
    replace XL : Hid (FclL v2 w.heap.size x) := XL.out.below hb
    clear hb SC x0 x1 x2 x3 x4 x5
    by_cases hz0 : z < 0
    · clear hz2 hsz hn hy
      go_wp2
      go_ret
      exact ⟨rfl, A1.out⟩
    · obtain ⟨zp, zo, zd⟩ := hz2 (by omega)
      clear hz2
      have TO : Hid (∀ w : World, Els w 3 a n (fiF FI) → Calls Tryz.prog 13 #[.slice a n c] w fun e w' => (∃ g, e = .returned (.slice (some ⟨g, 0, none⟩) n n) ∧ RowE w' 3 (some ⟨g, 0, none⟩) g n (fiF FI) ∧ w.heap.size ≤ g ∧ LtS g w') ∧ Below w.heap.size w w') := fun w h => (toFileS_any a n c FI w h hn).mono fun _ _ q => ⟨⟨_, q.1, q.2.1, Nat.le_refl _, q.2.2.1⟩, q.2.2.2⟩
      have EQ : Hid (∀ (b e : Option Addr) (x y : Nat) (w : World), Els w 3 b n (fiF FI) → Els w 3 e n (fiF FI) → Calls Tryz.prog 15 #[.slice b n x, .slice e n y] w fun e w' => e = .returned (.bool true) ∧ Below w.heap.size w w') := fun b e x y w h h' => eqFileS_yes b e n x y FI w h h' hn
      have SP : ∀ g : Nat, SlP (some ⟨g, 0, none⟩) n n := fun g => ⟨(fun e => by cases e), .inr ⟨_, _, rfl⟩, Nat.le_refl _, by unfold maxLen; omega⟩
      have SO : Hid (∀ (g : Nat) (w : World), Els w 3 (some ⟨g, 0, none⟩) n (fiF FI) → LtS g w → Calls Tryz.prog 8 #[.slice (some ⟨g, 0, none⟩) n n, .agg #[.int .i64 x.k, .int .i64 x.a, .int .i64 x.n, .string x.p, .string x.o, .string x.d]] w fun e w' => RetCf n FI x w.heap.size e w' ∧ Below w.heap.size w w') := fun g w h hl => specCf_any (some ⟨g, 0, none⟩) n n FI x (fun i hi => (hsz i hi).1) hn (SP g) w (fun y e => by cases e; exact hl) h
      have IY0 : Hid (∀ (N : Nat) (EL : Nat → Fi) (t : ByteArray) (cd dd : Int), CfIs n FI x N EL t cd dd → ∀ (g : Nat) (w : World), Els w 3 (some ⟨g, 0, none⟩) n (fiF FI) → Calls Tryz.prog 7 #[.slice (some ⟨g, 0, none⟩) n n, .agg #[.int .i64 x.k, .int .i64 x.a, .int .i64 x.n, .string x.p, .string x.o, .string x.d]] w fun e w' => (∃ (b : Option Addr) (cc : Nat), e = .returned (.tuple #[.slice b N cc, .agg #[.int .i64 cd, .string t], .int .i64 dd]) ∧ EO w' w.heap.size 51 3 (.slice b N cc) N (fiF EL)) ∧ Below w.heap.size w w') := fun N EL t cd dd hM g w h => (implCf_any (some ⟨g, 0, none⟩) n n FI x (fun i hi => (hsz i hi).1) (SP g) w h).mono fun e w' q => by
        obtain ⟨⟨b9, N', c9, EL', t', cd', dd', hM', e9, ho⟩, hb⟩ := q
        obtain ⟨rfl, rfl, rfl, rfl, hEL⟩ := hM'.one hM
        exact ⟨⟨b9, c9, e9, ho.congr (fiF_congr hEL)⟩, hb⟩
      have MR : Hid (∀ (g : Nat) (w : World), RowE w 3 (some ⟨g, 0, none⟩) g n (fiF FI) → Calls Tryz.prog 17 #[.slice (some ⟨g, 0, none⟩) n n, .int .i64 1] w fun e w' => e = .returned (.int .i64 ((1 + 3 * n : Nat) : Int)) ∧ TurnedE g n w w') := fun g w h => (markFileK _ g n n 1 FI (by omega) (by omega) w h).mono fun _ _ q => ⟨q.1, q.2.2⟩
      have NZ : ¬ ((1 + 3 * n : Nat) : Int) < 0 := by omega
      generalize ((1 + 3 * n : Nat) : Int) = N1 at *
      clear hsz SP hn hy hz zp zo zd
      go_wp2_with fail
      generalize hV : v2 = V at *
      clear hV
      go_cut [6, 7, 8] (fun s p d wx => ∃ (pb : Nat) (b : Option Addr) (cc N : Nat) (EL : Nat → Fi) (t : ByteArray) (cd dd : Int), s = .slice b N cc ∧ p = .pointer (some ⟨pb, 0, none⟩) ∧ d = .int .i64 dd ∧ Hid (CfIs n FI x N EL t cd dd) ∧ Box2 wx pb 29 (.int .i64 cd) (.string t) ∧ EO wx w.heap.size 51 3 (.slice b N cc) N (fiF EL) ∧ (FclL wx w.heap.size x) ∧ Below w.heap.size w wx)
      case first =>
        have XV : Hid (FclL V w.heap.size x) := XL.out
        have HV : Hid (Els V 3 a n (fiF FI)) := HE.out.below A1.out
        have AV : Hid (Below w.heap.size w V) := A1.out
        have H : Below V.heap.size V V.drew := (Below.refl _ _).drew
        refine wp_region_noPanic ?_
        refine wp_region_held_drew (S := fun w' => Below V.heap.size V w') (by kernel_rfl) H (fun _ => ?_)
        generalize V.drew = y0 at *
        refine wpAnyH_take (i := 0) (v := .slice a n c) rfl (by kernel_rfl) (by kernel_rfl) (by kernel_rfl) (fun _ _ _ h => h) (Or.inl ⟨by rfl, ?_⟩) H ?_
        · intro w' hSw; clear hSw; go_simp
        change wpAnyH _ _ _ _ _ _ _ { tmps := #[_, _, _, _, _, _, _, _, _, _, _, _, _, _, _, _, _, _, _, _, _, _, _, _, _, _, _, _, _, _, _, _, _, _, _, _, _, _, _, _, _, _, _, _, _, _, _, _, _, _, _, _, _, _, _, _, _, _, _, _, _, _, _, _, _, _, _, _, _, _, _, _, _, _, _, _, _, _, _, _, _, _, _, _, _, _, _, _, _, _, _, _, _, _, _, _, _, _, _, _, _, _, _, _, _, _, _, _, _, _, _, _, _, _, _, _, _, _, _, _, _, _, _, _, _, _, _, _, _, _, _, _, _], defers := _ } _
        refine wpAnyH_take (i := 2) (v := .agg #[.int .i64 x.k, .int .i64 x.a, .int .i64 x.n, .string x.p, .string x.o, .string x.d]) rfl (by kernel_rfl) (by kernel_rfl) (by kernel_rfl) (fun _ _ _ h => h) (Or.inl ⟨by rfl, ?_⟩) H ?_
        · intro w' hSw; obtain ⟨x0, x1, x2, x3, x4, x5⟩ := (XV.out.below hSw).c; clear hSw; go_simp
        change wpAnyH _ _ _ _ _ _ _ { tmps := #[_, _, _, _, _, _, _, _, _, _, _, _, _, _, _, _, _, _, _, _, _, _, _, _, _, _, _, _, _, _, _, _, _, _, _, _, _, _, _, _, _, _, _, _, _, _, _, _, _, _, _, _, _, _, _, _, _, _, _, _, _, _, _, _, _, _, _, _, _, _, _, _, _, _, _, _, _, _, _, _, _, _, _, _, _, _, _, _, _, _, _, _, _, _, _, _, _, _, _, _, _, _, _, _, _, _, _, _, _, _, _, _, _, _, _, _, _, _, _, _, _, _, _, _, _, _, _, _, _, _, _, _, _], defers := _ } _
        refine wpAnyH_ready (rs := [1, 9]) (by kernel_rfl) (by simp) ?_
        refine (AllReadyH.cons rfl (fun KK hK => ?_) (AllReadyH.cons rfl (fun KK hK => ?_) AllReadyH.nil))
        · skip
          go_simp
          refine (TO.out _ (HV.out.below H)).mono ?_
          rintro e y1 ⟨⟨gt, rfl, hrt, hgt, hlt⟩, hb⟩
          replace H : Below V.heap.size V y1 := H.trans (hb.mono H.size)
          have XT : Hid (Els y1 3 (some ⟨gt, 0, none⟩) n (fiF FI)) := hrt.els
          have LT : Hid (LtS gt y1) := hlt
          clear hb hrt hgt hlt
          refine hK.out _ _ H (fun _ => ?_)
          clear hK KK
          change wpAnyH _ _ _ _ _ _ _ { tmps := #[_, _, _, _, _, _, _, _, _, _, _, _, _, _, _, _, _, _, _, _, _, _, _, _, _, _, _, _, _, _, _, _, _, _, _, _, _, _, _, _, _, _, _, _, _, _, _, _, _, _, _, _, _, _, _, _, _, _, _, _, _, _, _, _, _, _, _, _, _, _, _, _, _, _, _, _, _, _, _, _, _, _, _, _, _, _, _, _, _, _, _, _, _, _, _, _, _, _, _, _, _, _, _, _, _, _, _, _, _, _, _, _, _, _, _, _, _, _, _, _, _, _, _, _, _, _, _, _, _, _, _, _, _], defers := _ } _
          refine wpAnyH_ready (rs := [3, 9]) (by kernel_rfl) (by simp) ?_
          refine (AllReadyH.cons rfl (fun KK hK => ?_) (AllReadyH.cons rfl (fun KK hK => ?_) AllReadyH.nil))
          · skip
            go_simp
            refine (TC.out _).mono ?_
            rintro e y2 ⟨rfl, hb⟩
            replace XT : Hid (Els y2 3 (some ⟨gt, 0, none⟩) n (fiF FI)) := XT.out.below hb
            replace LT : Hid (LtS gt y2) := LT.out.below hb
            replace H : Below V.heap.size V y2 := H.trans (hb.mono H.size)
            clear hb
            refine hK.out _ _ H (fun _ => ?_)
            clear hK KK
            change wpAnyH _ _ _ _ _ _ _ { tmps := #[_, _, _, _, _, _, _, _, _, _, _, _, _, _, _, _, _, _, _, _, _, _, _, _, _, _, _, _, _, _, _, _, _, _, _, _, _, _, _, _, _, _, _, _, _, _, _, _, _, _, _, _, _, _, _, _, _, _, _, _, _, _, _, _, _, _, _, _, _, _, _, _, _, _, _, _, _, _, _, _, _, _, _, _, _, _, _, _, _, _, _, _, _, _, _, _, _, _, _, _, _, _, _, _, _, _, _, _, _, _, _, _, _, _, _, _, _, _, _, _, _, _, _, _, _, _, _, _, _, _, _, _, _], defers := _ } _
            refine wpAnyH_ready (rs := [4, 9]) (by kernel_rfl) (by simp) ?_
            refine (AllReadyH.cons rfl (fun KK hK => ?_) (AllReadyH.cons rfl (fun KK hK => ?_) AllReadyH.nil))
            · skip
              go_simp
              refine (SO.out _ _ XT.out LT.out).mono ?_
              rintro e y3 ⟨⟨b, N, cc, EL, t, cd, dd, hM, rfl, ho⟩, hb⟩
              replace XT : Hid (Els y3 3 (some ⟨gt, 0, none⟩) n (fiF FI)) := XT.out.below hb
              replace LT : Hid (LtS gt y3) := LT.out.below hb
              have BW : w.heap.size ≤ y2.heap.size := Nat.le_trans AV.out.size H.size
              replace H : Below V.heap.size V y3 := H.trans (hb.mono H.size)
              have EW : Hid (EO y3 w.heap.size 51 3 (.slice b N cc) N (fiF EL)) := ho.mono BW
              have HM : Hid (CfIs n FI x N EL t cd dd) := hM
              clear hb BW ho
              refine hK.out _ _ H (fun _ => ?_)
              clear hK KK
              change wpAnyH _ _ _ _ _ _ _ { tmps := #[_, _, _, _, _, _, _, _, _, _, _, _, _, _, _, _, _, _, _, _, _, _, _, _, _, _, _, _, _, _, _, _, _, _, _, _, _, _, _, _, _, _, _, _, _, _, _, _, _, _, _, _, _, _, _, _, _, _, _, _, _, _, _, _, _, _, _, _, _, _, _, _, _, _, _, _, _, _, _, _, _, _, _, _, _, _, _, _, _, _, _, _, _, _, _, _, _, _, _, _, _, _, _, _, _, _, _, _, _, _, _, _, _, _, _, _, _, _, _, _, _, _, _, _, _, _, _, _, _, _, _, _, _], defers := _ } _
              refine wpAnyH_take (i := 5) (v := .tuple #[.slice b N cc, .agg #[.int .i64 cd, .string t], .int .i64 dd]) rfl (by kernel_rfl) (by kernel_rfl) (by kernel_rfl) (fun _ _ _ h => h) (Or.inl ⟨by rfl, ?_⟩) H ?_
              · intro w' hSw; clear hSw; go_simp
              change wpAnyH _ _ _ _ _ _ _ { tmps := #[_, _, _, _, _, _, _, _, _, _, _, _, _, _, _, _, _, _, _, _, _, _, _, _, _, _, _, _, _, _, _, _, _, _, _, _, _, _, _, _, _, _, _, _, _, _, _, _, _, _, _, _, _, _, _, _, _, _, _, _, _, _, _, _, _, _, _, _, _, _, _, _, _, _, _, _, _, _, _, _, _, _, _, _, _, _, _, _, _, _, _, _, _, _, _, _, _, _, _, _, _, _, _, _, _, _, _, _, _, _, _, _, _, _, _, _, _, _, _, _, _, _, _, _, _, _, _, _, _, _, _, _, _], defers := _ } _
              refine wpAnyH_take (i := 6) (v := .slice b N cc) rfl (by kernel_rfl) (by kernel_rfl) (by kernel_rfl) (fun _ _ _ h => h) (Or.inl ⟨by rfl, ?_⟩) H ?_
              · intro w' hSw; clear hSw; go_simp
              change wpAnyH _ _ _ _ _ _ _ { tmps := #[_, _, _, _, _, _, _, _, _, _, _, _, _, _, _, _, _, _, _, _, _, _, _, _, _, _, _, _, _, _, _, _, _, _, _, _, _, _, _, _, _, _, _, _, _, _, _, _, _, _, _, _, _, _, _, _, _, _, _, _, _, _, _, _, _, _, _, _, _, _, _, _, _, _, _, _, _, _, _, _, _, _, _, _, _, _, _, _, _, _, _, _, _, _, _, _, _, _, _, _, _, _, _, _, _, _, _, _, _, _, _, _, _, _, _, _, _, _, _, _, _, _, _, _, _, _, _, _, _, _, _, _, _], defers := _ } _
              refine wpAnyH_take (i := 7) (v := .agg #[.int .i64 cd, .string t]) rfl (by kernel_rfl) (by kernel_rfl) (by kernel_rfl) (fun _ _ _ h => h) (Or.inl ⟨by rfl, ?_⟩) H ?_
              · intro w' hSw; clear hSw; go_simp
              change wpAnyH _ _ _ _ _ _ _ { tmps := #[_, _, _, _, _, _, _, _, _, _, _, _, _, _, _, _, _, _, _, _, _, _, _, _, _, _, _, _, _, _, _, _, _, _, _, _, _, _, _, _, _, _, _, _, _, _, _, _, _, _, _, _, _, _, _, _, _, _, _, _, _, _, _, _, _, _, _, _, _, _, _, _, _, _, _, _, _, _, _, _, _, _, _, _, _, _, _, _, _, _, _, _, _, _, _, _, _, _, _, _, _, _, _, _, _, _, _, _, _, _, _, _, _, _, _, _, _, _, _, _, _, _, _, _, _, _, _, _, _, _, _, _, _], defers := _ } _
              refine wpAnyH_take (i := 8) (v := .int .i64 dd) rfl (by kernel_rfl) (by kernel_rfl) (by kernel_rfl) (fun _ _ _ h => h) (Or.inl ⟨by rfl, ?_⟩) H ?_
              · intro w' hSw; clear hSw; go_simp
              change wpAnyH _ _ _ _ _ _ _ { tmps := #[_, _, _, _, _, _, _, _, _, _, _, _, _, _, _, _, _, _, _, _, _, _, _, _, _, _, _, _, _, _, _, _, _, _, _, _, _, _, _, _, _, _, _, _, _, _, _, _, _, _, _, _, _, _, _, _, _, _, _, _, _, _, _, _, _, _, _, _, _, _, _, _, _, _, _, _, _, _, _, _, _, _, _, _, _, _, _, _, _, _, _, _, _, _, _, _, _, _, _, _, _, _, _, _, _, _, _, _, _, _, _, _, _, _, _, _, _, _, _, _, _, _, _, _, _, _, _, _, _, _, _, _, _], defers := _ } _
              refine wpAnyH_ready (rs := [9]) (by kernel_rfl) (by simp) ?_
              refine (AllReadyH.cons rfl (fun KK hK => ?_) AllReadyH.nil)
              go_simp
              have hb : Below y3.heap.size y3 (y3.alloc (.cells #[.int .i64 0, .string ⟨#[]⟩] 29)) := (Below.refl _ _).alloc (Nat.le_refl _) _
              have PZ : Hid (Box2 (y3.alloc (.cells #[.int .i64 0, .string ⟨#[]⟩] 29)) y3.heap.size 29 (.int .i64 0) (.string ⟨#[]⟩)) := Box2.madeAt rfl _ _ _
              have Lpb : Hid (V.heap.size ≤ y3.heap.size) := H.size
              replace XT : Hid (Els (y3.alloc (.cells #[.int .i64 0, .string ⟨#[]⟩] 29)) 3 (some ⟨gt, 0, none⟩) n (fiF FI)) := XT.out.below hb
              replace LT : Hid (LtS gt (y3.alloc (.cells #[.int .i64 0, .string ⟨#[]⟩] 29))) := LT.out.below hb
              replace EW : Hid (EO (y3.alloc (.cells #[.int .i64 0, .string ⟨#[]⟩] 29)) w.heap.size 51 3 (.slice b N cc) N (fiF EL)) := EW.out.below hb
              replace H : Below V.heap.size V (y3.alloc (.cells #[.int .i64 0, .string ⟨#[]⟩] 29)) := H.trans (hb.mono H.size)
              clear hb
              refine hK.out _ _ H (fun _ => ?_)
              clear hK KK
              generalize (y3.alloc (.cells #[.int .i64 0, .string ⟨#[]⟩] 29)) = y4 at *
              generalize y3.heap.size = pb at *
              change wpAnyH _ _ _ _ _ _ _ { tmps := #[_, _, _, _, _, _, _, _, _, _, _, _, _, _, _, _, _, _, _, _, _, _, _, _, _, _, _, _, _, _, _, _, _, _, _, _, _, _, _, _, _, _, _, _, _, _, _, _, _, _, _, _, _, _, _, _, _, _, _, _, _, _, _, _, _, _, _, _, _, _, _, _, _, _, _, _, _, _, _, _, _, _, _, _, _, _, _, _, _, _, _, _, _, _, _, _, _, _, _, _, _, _, _, _, _, _, _, _, _, _, _, _, _, _, _, _, _, _, _, _, _, _, _, _, _, _, _, _, _, _, _, _, _], defers := _ } _
              refine wpAnyH_take (i := 10) (v := .slice b N cc) rfl (by kernel_rfl) (by kernel_rfl) (by kernel_rfl) (fun _ _ _ h => h) (Or.inl ⟨by rfl, ?_⟩) H ?_
              · intro w' hSw; clear hSw; go_simp
              change wpAnyH _ _ _ _ _ _ _ { tmps := #[_, _, _, _, _, _, _, _, _, _, _, _, _, _, _, _, _, _, _, _, _, _, _, _, _, _, _, _, _, _, _, _, _, _, _, _, _, _, _, _, _, _, _, _, _, _, _, _, _, _, _, _, _, _, _, _, _, _, _, _, _, _, _, _, _, _, _, _, _, _, _, _, _, _, _, _, _, _, _, _, _, _, _, _, _, _, _, _, _, _, _, _, _, _, _, _, _, _, _, _, _, _, _, _, _, _, _, _, _, _, _, _, _, _, _, _, _, _, _, _, _, _, _, _, _, _, _, _, _, _, _, _, _], defers := _ } _
              refine wpAnyH_ready (rs := [11]) (by kernel_rfl) (by simp) ?_
              refine (AllReadyH.cons rfl (fun KK hK => ?_) AllReadyH.nil)
              have k0 := PZ.out.c0
              have k1 := PZ.out.c1
              have f0 := PZ.out.fr 0
              have f1 := PZ.out.fr 1
              go_simp
              have K9 : Hid (Box2 ((y4.setCell ⟨pb, 0, none⟩ (.int .i64 cd)).setCell ⟨pb, 1, none⟩ (.string t)) pb 29 (.int .i64 cd) (.string t)) := PZ.out.vr cd t
              have E9 : Hid (EO ((y4.setCell ⟨pb, 0, none⟩ (.int .i64 cd)).setCell ⟨pb, 1, none⟩ (.string t)) w.heap.size 51 3 (.slice b N cc) N (fiF EL)) := by
                refine EW.out.keep (fun g e => ?_)
                have hg : g ≠ pb := fun e2 => EW.out.notBoxC PZ.out (by decide) (e2 ▸ e)
                rw [Below.heap_setCell _ ⟨pb, 1, none⟩ _ g hg, Below.heap_setCell _ ⟨pb, 0, none⟩ _ g hg]
              replace H : Below V.heap.size V ((y4.setCell ⟨pb, 0, none⟩ (.int .i64 cd)).setCell ⟨pb, 1, none⟩ (.string t)) := (H.setCell (p := ⟨pb, 0, none⟩) Lpb.out _).setCell (p := ⟨pb, 1, none⟩) Lpb.out _
              clear k0 k1 f0 f1 PZ EW
              generalize ((y4.setCell ⟨pb, 0, none⟩ (.int .i64 cd)).setCell ⟨pb, 1, none⟩ (.string t)) = y5 at *
              refine hK.out _ _ H (fun _ => ?_)
              clear hK KK
              change wpAnyH _ _ _ _ _ _ _ { tmps := #[_, _, _, _, _, _, _, _, _, _, _, _, _, _, _, _, _, _, _, _, _, _, _, _, _, _, _, _, _, _, _, _, _, _, _, _, _, _, _, _, _, _, _, _, _, _, _, _, _, _, _, _, _, _, _, _, _, _, _, _, _, _, _, _, _, _, _, _, _, _, _, _, _, _, _, _, _, _, _, _, _, _, _, _, _, _, _, _, _, _, _, _, _, _, _, _, _, _, _, _, _, _, _, _, _, _, _, _, _, _, _, _, _, _, _, _, _, _, _, _, _, _, _, _, _, _, _, _, _, _, _, _, _], defers := _ } _
              refine wpAnyH_take (i := 12) (v := .int .i64 dd) rfl (by kernel_rfl) (by kernel_rfl) (by kernel_rfl) (fun _ _ _ h => h) (Or.inl ⟨by rfl, ?_⟩) H ?_
              · intro w' hSw; clear hSw; go_simp
              change wpAnyH _ _ _ _ _ _ _ { tmps := #[_, _, _, _, _, _, _, _, _, _, _, _, _, _, _, _, _, _, _, _, _, _, _, _, _, _, _, _, _, _, _, _, _, _, _, _, _, _, _, _, _, _, _, _, _, _, _, _, _, _, _, _, _, _, _, _, _, _, _, _, _, _, _, _, _, _, _, _, _, _, _, _, _, _, _, _, _, _, _, _, _, _, _, _, _, _, _, _, _, _, _, _, _, _, _, _, _, _, _, _, _, _, _, _, _, _, _, _, _, _, _, _, _, _, _, _, _, _, _, _, _, _, _, _, _, _, _, _, _, _, _, _, _], defers := _ } _
              refine wpAnyH_done (by kernel_rfl) ?_ _
              refine NoPanic.normal ?_
              change Exit.then _ _ Exit.normal { tmps := #[_, _, _, _, _, _, _, _, _, _, _, _, _, _, _, _, _, _, _, _, _, _, _, _, _, _, _, _, _, _, _, _, _, _, _, _, _, _, _, _, _, _, _, _, _, _, _, _, _, _, _, _, _, _, _, _, _, _, _, _, _, _, _, _, _, _, _, _, _, _, _, _, _, _, _, _, _, _, _, _, _, _, _, _, _, _, _, _, _, _, _, _, _, _, _, _, _, _, _, _, _, _, _, _, _, _, _, _, _, _, _, _, _, _, _, _, _, _, _, _, _, _, _, _, _, _, _, _, _, _, _, _, _], defers := _ } _
              go_wp2_with fail
              go_meet
              exact ⟨pb, b, cc, N, EL, t, cd, dd, rfl, rfl, rfl, HM.out, K9.out, E9.out, XL.out.below H, AV.out.trans (H.mono AV.out.size)⟩
            · skip
              go_simp
              have hb : Below y2.heap.size y2 (y2.alloc (.cells #[.int .i64 0, .string ⟨#[]⟩] 29)) := (Below.refl _ _).alloc (Nat.le_refl _) _
              have PZ : Hid (Box2 (y2.alloc (.cells #[.int .i64 0, .string ⟨#[]⟩] 29)) y2.heap.size 29 (.int .i64 0) (.string ⟨#[]⟩)) := Box2.madeAt rfl _ _ _
              have Lpb : Hid (V.heap.size ≤ y2.heap.size) := H.size
              replace XT : Hid (Els (y2.alloc (.cells #[.int .i64 0, .string ⟨#[]⟩] 29)) 3 (some ⟨gt, 0, none⟩) n (fiF FI)) := XT.out.below hb
              replace LT : Hid (LtS gt (y2.alloc (.cells #[.int .i64 0, .string ⟨#[]⟩] 29))) := LT.out.below hb
              replace H : Below V.heap.size V (y2.alloc (.cells #[.int .i64 0, .string ⟨#[]⟩] 29)) := H.trans (hb.mono H.size)
              clear hb
              refine hK.out _ _ H (fun _ => ?_)
              clear hK KK
              generalize (y2.alloc (.cells #[.int .i64 0, .string ⟨#[]⟩] 29)) = y3 at *
              generalize y2.heap.size = pb at *
              change wpAnyH _ _ _ _ _ _ _ { tmps := #[_, _, _, _, _, _, _, _, _, _, _, _, _, _, _, _, _, _, _, _, _, _, _, _, _, _, _, _, _, _, _, _, _, _, _, _, _, _, _, _, _, _, _, _, _, _, _, _, _, _, _, _, _, _, _, _, _, _, _, _, _, _, _, _, _, _, _, _, _, _, _, _, _, _, _, _, _, _, _, _, _, _, _, _, _, _, _, _, _, _, _, _, _, _, _, _, _, _, _, _, _, _, _, _, _, _, _, _, _, _, _, _, _, _, _, _, _, _, _, _, _, _, _, _, _, _, _, _, _, _, _, _, _], defers := _ } _
              refine wpAnyH_ready (rs := [4]) (by kernel_rfl) (by simp) ?_
              refine (AllReadyH.cons rfl (fun KK hK => ?_) AllReadyH.nil)
              go_simp
              refine (SO.out _ _ XT.out LT.out).mono ?_
              rintro e y4 ⟨⟨b, N, cc, EL, t, cd, dd, hM, rfl, ho⟩, hb⟩
              replace XT : Hid (Els y4 3 (some ⟨gt, 0, none⟩) n (fiF FI)) := XT.out.below hb
              replace LT : Hid (LtS gt y4) := LT.out.below hb
              replace PZ : Hid (Box2 y4 pb 29 (.int .i64 0) (.string ⟨#[]⟩)) := PZ.out.below hb
              have BW : w.heap.size ≤ y3.heap.size := Nat.le_trans AV.out.size H.size
              replace H : Below V.heap.size V y4 := H.trans (hb.mono H.size)
              have EW : Hid (EO y4 w.heap.size 51 3 (.slice b N cc) N (fiF EL)) := ho.mono BW
              have HM : Hid (CfIs n FI x N EL t cd dd) := hM
              clear hb BW ho
              refine hK.out _ _ H (fun _ => ?_)
              clear hK KK
              change wpAnyH _ _ _ _ _ _ _ { tmps := #[_, _, _, _, _, _, _, _, _, _, _, _, _, _, _, _, _, _, _, _, _, _, _, _, _, _, _, _, _, _, _, _, _, _, _, _, _, _, _, _, _, _, _, _, _, _, _, _, _, _, _, _, _, _, _, _, _, _, _, _, _, _, _, _, _, _, _, _, _, _, _, _, _, _, _, _, _, _, _, _, _, _, _, _, _, _, _, _, _, _, _, _, _, _, _, _, _, _, _, _, _, _, _, _, _, _, _, _, _, _, _, _, _, _, _, _, _, _, _, _, _, _, _, _, _, _, _, _, _, _, _, _, _], defers := _ } _
              refine wpAnyH_take (i := 5) (v := .tuple #[.slice b N cc, .agg #[.int .i64 cd, .string t], .int .i64 dd]) rfl (by kernel_rfl) (by kernel_rfl) (by kernel_rfl) (fun _ _ _ h => h) (Or.inl ⟨by rfl, ?_⟩) H ?_
              · intro w' hSw; clear hSw; go_simp
              change wpAnyH _ _ _ _ _ _ _ { tmps := #[_, _, _, _, _, _, _, _, _, _, _, _, _, _, _, _, _, _, _, _, _, _, _, _, _, _, _, _, _, _, _, _, _, _, _, _, _, _, _, _, _, _, _, _, _, _, _, _, _, _, _, _, _, _, _, _, _, _, _, _, _, _, _, _, _, _, _, _, _, _, _, _, _, _, _, _, _, _, _, _, _, _, _, _, _, _, _, _, _, _, _, _, _, _, _, _, _, _, _, _, _, _, _, _, _, _, _, _, _, _, _, _, _, _, _, _, _, _, _, _, _, _, _, _, _, _, _, _, _, _, _, _, _], defers := _ } _
              refine wpAnyH_take (i := 6) (v := .slice b N cc) rfl (by kernel_rfl) (by kernel_rfl) (by kernel_rfl) (fun _ _ _ h => h) (Or.inl ⟨by rfl, ?_⟩) H ?_
              · intro w' hSw; clear hSw; go_simp
              change wpAnyH _ _ _ _ _ _ _ { tmps := #[_, _, _, _, _, _, _, _, _, _, _, _, _, _, _, _, _, _, _, _, _, _, _, _, _, _, _, _, _, _, _, _, _, _, _, _, _, _, _, _, _, _, _, _, _, _, _, _, _, _, _, _, _, _, _, _, _, _, _, _, _, _, _, _, _, _, _, _, _, _, _, _, _, _, _, _, _, _, _, _, _, _, _, _, _, _, _, _, _, _, _, _, _, _, _, _, _, _, _, _, _, _, _, _, _, _, _, _, _, _, _, _, _, _, _, _, _, _, _, _, _, _, _, _, _, _, _, _, _, _, _, _, _], defers := _ } _
              refine wpAnyH_take (i := 7) (v := .agg #[.int .i64 cd, .string t]) rfl (by kernel_rfl) (by kernel_rfl) (by kernel_rfl) (fun _ _ _ h => h) (Or.inl ⟨by rfl, ?_⟩) H ?_
              · intro w' hSw; clear hSw; go_simp
              change wpAnyH _ _ _ _ _ _ _ { tmps := #[_, _, _, _, _, _, _, _, _, _, _, _, _, _, _, _, _, _, _, _, _, _, _, _, _, _, _, _, _, _, _, _, _, _, _, _, _, _, _, _, _, _, _, _, _, _, _, _, _, _, _, _, _, _, _, _, _, _, _, _, _, _, _, _, _, _, _, _, _, _, _, _, _, _, _, _, _, _, _, _, _, _, _, _, _, _, _, _, _, _, _, _, _, _, _, _, _, _, _, _, _, _, _, _, _, _, _, _, _, _, _, _, _, _, _, _, _, _, _, _, _, _, _, _, _, _, _, _, _, _, _, _, _], defers := _ } _
              refine wpAnyH_take (i := 8) (v := .int .i64 dd) rfl (by kernel_rfl) (by kernel_rfl) (by kernel_rfl) (fun _ _ _ h => h) (Or.inl ⟨by rfl, ?_⟩) H ?_
              · intro w' hSw; clear hSw; go_simp
              change wpAnyH _ _ _ _ _ _ _ { tmps := #[_, _, _, _, _, _, _, _, _, _, _, _, _, _, _, _, _, _, _, _, _, _, _, _, _, _, _, _, _, _, _, _, _, _, _, _, _, _, _, _, _, _, _, _, _, _, _, _, _, _, _, _, _, _, _, _, _, _, _, _, _, _, _, _, _, _, _, _, _, _, _, _, _, _, _, _, _, _, _, _, _, _, _, _, _, _, _, _, _, _, _, _, _, _, _, _, _, _, _, _, _, _, _, _, _, _, _, _, _, _, _, _, _, _, _, _, _, _, _, _, _, _, _, _, _, _, _, _, _, _, _, _, _], defers := _ } _
              refine wpAnyH_take (i := 10) (v := .slice b N cc) rfl (by kernel_rfl) (by kernel_rfl) (by kernel_rfl) (fun _ _ _ h => h) (Or.inl ⟨by rfl, ?_⟩) H ?_
              · intro w' hSw; clear hSw; go_simp
              change wpAnyH _ _ _ _ _ _ _ { tmps := #[_, _, _, _, _, _, _, _, _, _, _, _, _, _, _, _, _, _, _, _, _, _, _, _, _, _, _, _, _, _, _, _, _, _, _, _, _, _, _, _, _, _, _, _, _, _, _, _, _, _, _, _, _, _, _, _, _, _, _, _, _, _, _, _, _, _, _, _, _, _, _, _, _, _, _, _, _, _, _, _, _, _, _, _, _, _, _, _, _, _, _, _, _, _, _, _, _, _, _, _, _, _, _, _, _, _, _, _, _, _, _, _, _, _, _, _, _, _, _, _, _, _, _, _, _, _, _, _, _, _, _, _, _], defers := _ } _
              refine wpAnyH_ready (rs := [11]) (by kernel_rfl) (by simp) ?_
              refine (AllReadyH.cons rfl (fun KK hK => ?_) AllReadyH.nil)
              have k0 := PZ.out.c0
              have k1 := PZ.out.c1
              have f0 := PZ.out.fr 0
              have f1 := PZ.out.fr 1
              go_simp
              have K9 : Hid (Box2 ((y4.setCell ⟨pb, 0, none⟩ (.int .i64 cd)).setCell ⟨pb, 1, none⟩ (.string t)) pb 29 (.int .i64 cd) (.string t)) := PZ.out.vr cd t
              have E9 : Hid (EO ((y4.setCell ⟨pb, 0, none⟩ (.int .i64 cd)).setCell ⟨pb, 1, none⟩ (.string t)) w.heap.size 51 3 (.slice b N cc) N (fiF EL)) := by
                refine EW.out.keep (fun g e => ?_)
                have hg : g ≠ pb := fun e2 => EW.out.notBoxC PZ.out (by decide) (e2 ▸ e)
                rw [Below.heap_setCell _ ⟨pb, 1, none⟩ _ g hg, Below.heap_setCell _ ⟨pb, 0, none⟩ _ g hg]
              replace H : Below V.heap.size V ((y4.setCell ⟨pb, 0, none⟩ (.int .i64 cd)).setCell ⟨pb, 1, none⟩ (.string t)) := (H.setCell (p := ⟨pb, 0, none⟩) Lpb.out _).setCell (p := ⟨pb, 1, none⟩) Lpb.out _
              clear k0 k1 f0 f1 PZ EW
              generalize ((y4.setCell ⟨pb, 0, none⟩ (.int .i64 cd)).setCell ⟨pb, 1, none⟩ (.string t)) = y5 at *
              refine hK.out _ _ H (fun _ => ?_)
              clear hK KK
              change wpAnyH _ _ _ _ _ _ _ { tmps := #[_, _, _, _, _, _, _, _, _, _, _, _, _, _, _, _, _, _, _, _, _, _, _, _, _, _, _, _, _, _, _, _, _, _, _, _, _, _, _, _, _, _, _, _, _, _, _, _, _, _, _, _, _, _, _, _, _, _, _, _, _, _, _, _, _, _, _, _, _, _, _, _, _, _, _, _, _, _, _, _, _, _, _, _, _, _, _, _, _, _, _, _, _, _, _, _, _, _, _, _, _, _, _, _, _, _, _, _, _, _, _, _, _, _, _, _, _, _, _, _, _, _, _, _, _, _, _, _, _, _, _, _, _], defers := _ } _
              refine wpAnyH_take (i := 12) (v := .int .i64 dd) rfl (by kernel_rfl) (by kernel_rfl) (by kernel_rfl) (fun _ _ _ h => h) (Or.inl ⟨by rfl, ?_⟩) H ?_
              · intro w' hSw; clear hSw; go_simp
              change wpAnyH _ _ _ _ _ _ _ { tmps := #[_, _, _, _, _, _, _, _, _, _, _, _, _, _, _, _, _, _, _, _, _, _, _, _, _, _, _, _, _, _, _, _, _, _, _, _, _, _, _, _, _, _, _, _, _, _, _, _, _, _, _, _, _, _, _, _, _, _, _, _, _, _, _, _, _, _, _, _, _, _, _, _, _, _, _, _, _, _, _, _, _, _, _, _, _, _, _, _, _, _, _, _, _, _, _, _, _, _, _, _, _, _, _, _, _, _, _, _, _, _, _, _, _, _, _, _, _, _, _, _, _, _, _, _, _, _, _, _, _, _, _, _, _], defers := _ } _
              refine wpAnyH_done (by kernel_rfl) ?_ _
              refine NoPanic.normal ?_
              change Exit.then _ _ Exit.normal { tmps := #[_, _, _, _, _, _, _, _, _, _, _, _, _, _, _, _, _, _, _, _, _, _, _, _, _, _, _, _, _, _, _, _, _, _, _, _, _, _, _, _, _, _, _, _, _, _, _, _, _, _, _, _, _, _, _, _, _, _, _, _, _, _, _, _, _, _, _, _, _, _, _, _, _, _, _, _, _, _, _, _, _, _, _, _, _, _, _, _, _, _, _, _, _, _, _, _, _, _, _, _, _, _, _, _, _, _, _, _, _, _, _, _, _, _, _, _, _, _, _, _, _, _, _, _, _, _, _, _, _, _, _, _, _], defers := _ } _
              go_wp2_with fail
              go_meet
              exact ⟨pb, b, cc, N, EL, t, cd, dd, rfl, rfl, rfl, HM.out, K9.out, E9.out, XL.out.below H, AV.out.trans (H.mono AV.out.size)⟩
          · skip
            go_simp
            have hb : Below y1.heap.size y1 (y1.alloc (.cells #[.int .i64 0, .string ⟨#[]⟩] 29)) := (Below.refl _ _).alloc (Nat.le_refl _) _
            have PZ : Hid (Box2 (y1.alloc (.cells #[.int .i64 0, .string ⟨#[]⟩] 29)) y1.heap.size 29 (.int .i64 0) (.string ⟨#[]⟩)) := Box2.madeAt rfl _ _ _
            have Lpb : Hid (V.heap.size ≤ y1.heap.size) := H.size
            replace XT : Hid (Els (y1.alloc (.cells #[.int .i64 0, .string ⟨#[]⟩] 29)) 3 (some ⟨gt, 0, none⟩) n (fiF FI)) := XT.out.below hb
            replace LT : Hid (LtS gt (y1.alloc (.cells #[.int .i64 0, .string ⟨#[]⟩] 29))) := LT.out.below hb
            replace H : Below V.heap.size V (y1.alloc (.cells #[.int .i64 0, .string ⟨#[]⟩] 29)) := H.trans (hb.mono H.size)
            clear hb
            refine hK.out _ _ H (fun _ => ?_)
            clear hK KK
            generalize (y1.alloc (.cells #[.int .i64 0, .string ⟨#[]⟩] 29)) = y2 at *
            generalize y1.heap.size = pb at *
            change wpAnyH _ _ _ _ _ _ _ { tmps := #[_, _, _, _, _, _, _, _, _, _, _, _, _, _, _, _, _, _, _, _, _, _, _, _, _, _, _, _, _, _, _, _, _, _, _, _, _, _, _, _, _, _, _, _, _, _, _, _, _, _, _, _, _, _, _, _, _, _, _, _, _, _, _, _, _, _, _, _, _, _, _, _, _, _, _, _, _, _, _, _, _, _, _, _, _, _, _, _, _, _, _, _, _, _, _, _, _, _, _, _, _, _, _, _, _, _, _, _, _, _, _, _, _, _, _, _, _, _, _, _, _, _, _, _, _, _, _, _, _, _, _, _, _], defers := _ } _
            refine wpAnyH_ready (rs := [3]) (by kernel_rfl) (by simp) ?_
            refine (AllReadyH.cons rfl (fun KK hK => ?_) AllReadyH.nil)
            go_simp
            refine (TC.out _).mono ?_
            rintro e y3 ⟨rfl, hb⟩
            replace XT : Hid (Els y3 3 (some ⟨gt, 0, none⟩) n (fiF FI)) := XT.out.below hb
            replace LT : Hid (LtS gt y3) := LT.out.below hb
            replace PZ : Hid (Box2 y3 pb 29 (.int .i64 0) (.string ⟨#[]⟩)) := PZ.out.below hb
            replace H : Below V.heap.size V y3 := H.trans (hb.mono H.size)
            clear hb
            refine hK.out _ _ H (fun _ => ?_)
            clear hK KK
            change wpAnyH _ _ _ _ _ _ _ { tmps := #[_, _, _, _, _, _, _, _, _, _, _, _, _, _, _, _, _, _, _, _, _, _, _, _, _, _, _, _, _, _, _, _, _, _, _, _, _, _, _, _, _, _, _, _, _, _, _, _, _, _, _, _, _, _, _, _, _, _, _, _, _, _, _, _, _, _, _, _, _, _, _, _, _, _, _, _, _, _, _, _, _, _, _, _, _, _, _, _, _, _, _, _, _, _, _, _, _, _, _, _, _, _, _, _, _, _, _, _, _, _, _, _, _, _, _, _, _, _, _, _, _, _, _, _, _, _, _, _, _, _, _, _, _], defers := _ } _
            refine wpAnyH_ready (rs := [4]) (by kernel_rfl) (by simp) ?_
            refine (AllReadyH.cons rfl (fun KK hK => ?_) AllReadyH.nil)
            go_simp
            refine (SO.out _ _ XT.out LT.out).mono ?_
            rintro e y4 ⟨⟨b, N, cc, EL, t, cd, dd, hM, rfl, ho⟩, hb⟩
            replace XT : Hid (Els y4 3 (some ⟨gt, 0, none⟩) n (fiF FI)) := XT.out.below hb
            replace LT : Hid (LtS gt y4) := LT.out.below hb
            replace PZ : Hid (Box2 y4 pb 29 (.int .i64 0) (.string ⟨#[]⟩)) := PZ.out.below hb
            have BW : w.heap.size ≤ y3.heap.size := Nat.le_trans AV.out.size H.size
            replace H : Below V.heap.size V y4 := H.trans (hb.mono H.size)
            have EW : Hid (EO y4 w.heap.size 51 3 (.slice b N cc) N (fiF EL)) := ho.mono BW
            have HM : Hid (CfIs n FI x N EL t cd dd) := hM
            clear hb BW ho
            refine hK.out _ _ H (fun _ => ?_)
            clear hK KK
            change wpAnyH _ _ _ _ _ _ _ { tmps := #[_, _, _, _, _, _, _, _, _, _, _, _, _, _, _, _, _, _, _, _, _, _, _, _, _, _, _, _, _, _, _, _, _, _, _, _, _, _, _, _, _, _, _, _, _, _, _, _, _, _, _, _, _, _, _, _, _, _, _, _, _, _, _, _, _, _, _, _, _, _, _, _, _, _, _, _, _, _, _, _, _, _, _, _, _, _, _, _, _, _, _, _, _, _, _, _, _, _, _, _, _, _, _, _, _, _, _, _, _, _, _, _, _, _, _, _, _, _, _, _, _, _, _, _, _, _, _, _, _, _, _, _, _], defers := _ } _
            refine wpAnyH_take (i := 5) (v := .tuple #[.slice b N cc, .agg #[.int .i64 cd, .string t], .int .i64 dd]) rfl (by kernel_rfl) (by kernel_rfl) (by kernel_rfl) (fun _ _ _ h => h) (Or.inl ⟨by rfl, ?_⟩) H ?_
            · intro w' hSw; clear hSw; go_simp
            change wpAnyH _ _ _ _ _ _ _ { tmps := #[_, _, _, _, _, _, _, _, _, _, _, _, _, _, _, _, _, _, _, _, _, _, _, _, _, _, _, _, _, _, _, _, _, _, _, _, _, _, _, _, _, _, _, _, _, _, _, _, _, _, _, _, _, _, _, _, _, _, _, _, _, _, _, _, _, _, _, _, _, _, _, _, _, _, _, _, _, _, _, _, _, _, _, _, _, _, _, _, _, _, _, _, _, _, _, _, _, _, _, _, _, _, _, _, _, _, _, _, _, _, _, _, _, _, _, _, _, _, _, _, _, _, _, _, _, _, _, _, _, _, _, _, _], defers := _ } _
            refine wpAnyH_take (i := 6) (v := .slice b N cc) rfl (by kernel_rfl) (by kernel_rfl) (by kernel_rfl) (fun _ _ _ h => h) (Or.inl ⟨by rfl, ?_⟩) H ?_
            · intro w' hSw; clear hSw; go_simp
            change wpAnyH _ _ _ _ _ _ _ { tmps := #[_, _, _, _, _, _, _, _, _, _, _, _, _, _, _, _, _, _, _, _, _, _, _, _, _, _, _, _, _, _, _, _, _, _, _, _, _, _, _, _, _, _, _, _, _, _, _, _, _, _, _, _, _, _, _, _, _, _, _, _, _, _, _, _, _, _, _, _, _, _, _, _, _, _, _, _, _, _, _, _, _, _, _, _, _, _, _, _, _, _, _, _, _, _, _, _, _, _, _, _, _, _, _, _, _, _, _, _, _, _, _, _, _, _, _, _, _, _, _, _, _, _, _, _, _, _, _, _, _, _, _, _, _], defers := _ } _
            refine wpAnyH_take (i := 7) (v := .agg #[.int .i64 cd, .string t]) rfl (by kernel_rfl) (by kernel_rfl) (by kernel_rfl) (fun _ _ _ h => h) (Or.inl ⟨by rfl, ?_⟩) H ?_
            · intro w' hSw; clear hSw; go_simp
            change wpAnyH _ _ _ _ _ _ _ { tmps := #[_, _, _, _, _, _, _, _, _, _, _, _, _, _, _, _, _, _, _, _, _, _, _, _, _, _, _, _, _, _, _, _, _, _, _, _, _, _, _, _, _, _, _, _, _, _, _, _, _, _, _, _, _, _, _, _, _, _, _, _, _, _, _, _, _, _, _, _, _, _, _, _, _, _, _, _, _, _, _, _, _, _, _, _, _, _, _, _, _, _, _, _, _, _, _, _, _, _, _, _, _, _, _, _, _, _, _, _, _, _, _, _, _, _, _, _, _, _, _, _, _, _, _, _, _, _, _, _, _, _, _, _, _], defers := _ } _
            refine wpAnyH_take (i := 8) (v := .int .i64 dd) rfl (by kernel_rfl) (by kernel_rfl) (by kernel_rfl) (fun _ _ _ h => h) (Or.inl ⟨by rfl, ?_⟩) H ?_
            · intro w' hSw; clear hSw; go_simp
            change wpAnyH _ _ _ _ _ _ _ { tmps := #[_, _, _, _, _, _, _, _, _, _, _, _, _, _, _, _, _, _, _, _, _, _, _, _, _, _, _, _, _, _, _, _, _, _, _, _, _, _, _, _, _, _, _, _, _, _, _, _, _, _, _, _, _, _, _, _, _, _, _, _, _, _, _, _, _, _, _, _, _, _, _, _, _, _, _, _, _, _, _, _, _, _, _, _, _, _, _, _, _, _, _, _, _, _, _, _, _, _, _, _, _, _, _, _, _, _, _, _, _, _, _, _, _, _, _, _, _, _, _, _, _, _, _, _, _, _, _, _, _, _, _, _, _], defers := _ } _
            refine wpAnyH_take (i := 10) (v := .slice b N cc) rfl (by kernel_rfl) (by kernel_rfl) (by kernel_rfl) (fun _ _ _ h => h) (Or.inl ⟨by rfl, ?_⟩) H ?_
            · intro w' hSw; clear hSw; go_simp
            change wpAnyH _ _ _ _ _ _ _ { tmps := #[_, _, _, _, _, _, _, _, _, _, _, _, _, _, _, _, _, _, _, _, _, _, _, _, _, _, _, _, _, _, _, _, _, _, _, _, _, _, _, _, _, _, _, _, _, _, _, _, _, _, _, _, _, _, _, _, _, _, _, _, _, _, _, _, _, _, _, _, _, _, _, _, _, _, _, _, _, _, _, _, _, _, _, _, _, _, _, _, _, _, _, _, _, _, _, _, _, _, _, _, _, _, _, _, _, _, _, _, _, _, _, _, _, _, _, _, _, _, _, _, _, _, _, _, _, _, _, _, _, _, _, _, _], defers := _ } _
            refine wpAnyH_ready (rs := [11]) (by kernel_rfl) (by simp) ?_
            refine (AllReadyH.cons rfl (fun KK hK => ?_) AllReadyH.nil)
            have k0 := PZ.out.c0
            have k1 := PZ.out.c1
            have f0 := PZ.out.fr 0
            have f1 := PZ.out.fr 1
            go_simp
            have K9 : Hid (Box2 ((y4.setCell ⟨pb, 0, none⟩ (.int .i64 cd)).setCell ⟨pb, 1, none⟩ (.string t)) pb 29 (.int .i64 cd) (.string t)) := PZ.out.vr cd t
            have E9 : Hid (EO ((y4.setCell ⟨pb, 0, none⟩ (.int .i64 cd)).setCell ⟨pb, 1, none⟩ (.string t)) w.heap.size 51 3 (.slice b N cc) N (fiF EL)) := by
              refine EW.out.keep (fun g e => ?_)
              have hg : g ≠ pb := fun e2 => EW.out.notBoxC PZ.out (by decide) (e2 ▸ e)
              rw [Below.heap_setCell _ ⟨pb, 1, none⟩ _ g hg, Below.heap_setCell _ ⟨pb, 0, none⟩ _ g hg]
            replace H : Below V.heap.size V ((y4.setCell ⟨pb, 0, none⟩ (.int .i64 cd)).setCell ⟨pb, 1, none⟩ (.string t)) := (H.setCell (p := ⟨pb, 0, none⟩) Lpb.out _).setCell (p := ⟨pb, 1, none⟩) Lpb.out _
            clear k0 k1 f0 f1 PZ EW
            generalize ((y4.setCell ⟨pb, 0, none⟩ (.int .i64 cd)).setCell ⟨pb, 1, none⟩ (.string t)) = y5 at *
            refine hK.out _ _ H (fun _ => ?_)
            clear hK KK
            change wpAnyH _ _ _ _ _ _ _ { tmps := #[_, _, _, _, _, _, _, _, _, _, _, _, _, _, _, _, _, _, _, _, _, _, _, _, _, _, _, _, _, _, _, _, _, _, _, _, _, _, _, _, _, _, _, _, _, _, _, _, _, _, _, _, _, _, _, _, _, _, _, _, _, _, _, _, _, _, _, _, _, _, _, _, _, _, _, _, _, _, _, _, _, _, _, _, _, _, _, _, _, _, _, _, _, _, _, _, _, _, _, _, _, _, _, _, _, _, _, _, _, _, _, _, _, _, _, _, _, _, _, _, _, _, _, _, _, _, _, _, _, _, _, _, _], defers := _ } _
            refine wpAnyH_take (i := 12) (v := .int .i64 dd) rfl (by kernel_rfl) (by kernel_rfl) (by kernel_rfl) (fun _ _ _ h => h) (Or.inl ⟨by rfl, ?_⟩) H ?_
            · intro w' hSw; clear hSw; go_simp
            change wpAnyH _ _ _ _ _ _ _ { tmps := #[_, _, _, _, _, _, _, _, _, _, _, _, _, _, _, _, _, _, _, _, _, _, _, _, _, _, _, _, _, _, _, _, _, _, _, _, _, _, _, _, _, _, _, _, _, _, _, _, _, _, _, _, _, _, _, _, _, _, _, _, _, _, _, _, _, _, _, _, _, _, _, _, _, _, _, _, _, _, _, _, _, _, _, _, _, _, _, _, _, _, _, _, _, _, _, _, _, _, _, _, _, _, _, _, _, _, _, _, _, _, _, _, _, _, _, _, _, _, _, _, _, _, _, _, _, _, _, _, _, _, _, _, _], defers := _ } _
            refine wpAnyH_done (by kernel_rfl) ?_ _
            refine NoPanic.normal ?_
            change Exit.then _ _ Exit.normal { tmps := #[_, _, _, _, _, _, _, _, _, _, _, _, _, _, _, _, _, _, _, _, _, _, _, _, _, _, _, _, _, _, _, _, _, _, _, _, _, _, _, _, _, _, _, _, _, _, _, _, _, _, _, _, _, _, _, _, _, _, _, _, _, _, _, _, _, _, _, _, _, _, _, _, _, _, _, _, _, _, _, _, _, _, _, _, _, _, _, _, _, _, _, _, _, _, _, _, _, _, _, _, _, _, _, _, _, _, _, _, _, _, _, _, _, _, _, _, _, _, _, _, _, _, _, _, _, _, _, _, _, _, _, _, _], defers := _ } _
            go_wp2_with fail
            go_meet
            exact ⟨pb, b, cc, N, EL, t, cd, dd, rfl, rfl, rfl, HM.out, K9.out, E9.out, XL.out.below H, AV.out.trans (H.mono AV.out.size)⟩
        · skip
          go_simp
          have hb : Below y0.heap.size y0 (y0.alloc (.cells #[.int .i64 0, .string ⟨#[]⟩] 29)) := (Below.refl _ _).alloc (Nat.le_refl _) _
          have PZ : Hid (Box2 (y0.alloc (.cells #[.int .i64 0, .string ⟨#[]⟩] 29)) y0.heap.size 29 (.int .i64 0) (.string ⟨#[]⟩)) := Box2.madeAt rfl _ _ _
          have Lpb : Hid (V.heap.size ≤ y0.heap.size) := H.size
          replace H : Below V.heap.size V (y0.alloc (.cells #[.int .i64 0, .string ⟨#[]⟩] 29)) := H.trans (hb.mono H.size)
          clear hb
          refine hK.out _ _ H (fun _ => ?_)
          clear hK KK
          generalize (y0.alloc (.cells #[.int .i64 0, .string ⟨#[]⟩] 29)) = y1 at *
          generalize y0.heap.size = pb at *
          change wpAnyH _ _ _ _ _ _ _ { tmps := #[_, _, _, _, _, _, _, _, _, _, _, _, _, _, _, _, _, _, _, _, _, _, _, _, _, _, _, _, _, _, _, _, _, _, _, _, _, _, _, _, _, _, _, _, _, _, _, _, _, _, _, _, _, _, _, _, _, _, _, _, _, _, _, _, _, _, _, _, _, _, _, _, _, _, _, _, _, _, _, _, _, _, _, _, _, _, _, _, _, _, _, _, _, _, _, _, _, _, _, _, _, _, _, _, _, _, _, _, _, _, _, _, _, _, _, _, _, _, _, _, _, _, _, _, _, _, _, _, _, _, _, _, _], defers := _ } _
          refine wpAnyH_ready (rs := [1]) (by kernel_rfl) (by simp) ?_
          refine (AllReadyH.cons rfl (fun KK hK => ?_) AllReadyH.nil)
          go_simp
          refine (TO.out _ (HV.out.below H)).mono ?_
          rintro e y2 ⟨⟨gt, rfl, hrt, hgt, hlt⟩, hb⟩
          replace PZ : Hid (Box2 y2 pb 29 (.int .i64 0) (.string ⟨#[]⟩)) := PZ.out.below hb
          replace H : Below V.heap.size V y2 := H.trans (hb.mono H.size)
          have XT : Hid (Els y2 3 (some ⟨gt, 0, none⟩) n (fiF FI)) := hrt.els
          have LT : Hid (LtS gt y2) := hlt
          clear hb hrt hgt hlt
          refine hK.out _ _ H (fun _ => ?_)
          clear hK KK
          change wpAnyH _ _ _ _ _ _ _ { tmps := #[_, _, _, _, _, _, _, _, _, _, _, _, _, _, _, _, _, _, _, _, _, _, _, _, _, _, _, _, _, _, _, _, _, _, _, _, _, _, _, _, _, _, _, _, _, _, _, _, _, _, _, _, _, _, _, _, _, _, _, _, _, _, _, _, _, _, _, _, _, _, _, _, _, _, _, _, _, _, _, _, _, _, _, _, _, _, _, _, _, _, _, _, _, _, _, _, _, _, _, _, _, _, _, _, _, _, _, _, _, _, _, _, _, _, _, _, _, _, _, _, _, _, _, _, _, _, _, _, _, _, _, _, _], defers := _ } _
          refine wpAnyH_ready (rs := [3]) (by kernel_rfl) (by simp) ?_
          refine (AllReadyH.cons rfl (fun KK hK => ?_) AllReadyH.nil)
          go_simp
          refine (TC.out _).mono ?_
          rintro e y3 ⟨rfl, hb⟩
          replace PZ : Hid (Box2 y3 pb 29 (.int .i64 0) (.string ⟨#[]⟩)) := PZ.out.below hb
          replace XT : Hid (Els y3 3 (some ⟨gt, 0, none⟩) n (fiF FI)) := XT.out.below hb
          replace LT : Hid (LtS gt y3) := LT.out.below hb
          replace H : Below V.heap.size V y3 := H.trans (hb.mono H.size)
          clear hb
          refine hK.out _ _ H (fun _ => ?_)
          clear hK KK
          change wpAnyH _ _ _ _ _ _ _ { tmps := #[_, _, _, _, _, _, _, _, _, _, _, _, _, _, _, _, _, _, _, _, _, _, _, _, _, _, _, _, _, _, _, _, _, _, _, _, _, _, _, _, _, _, _, _, _, _, _, _, _, _, _, _, _, _, _, _, _, _, _, _, _, _, _, _, _, _, _, _, _, _, _, _, _, _, _, _, _, _, _, _, _, _, _, _, _, _, _, _, _, _, _, _, _, _, _, _, _, _, _, _, _, _, _, _, _, _, _, _, _, _, _, _, _, _, _, _, _, _, _, _, _, _, _, _, _, _, _, _, _, _, _, _, _], defers := _ } _
          refine wpAnyH_ready (rs := [4]) (by kernel_rfl) (by simp) ?_
          refine (AllReadyH.cons rfl (fun KK hK => ?_) AllReadyH.nil)
          go_simp
          refine (SO.out _ _ XT.out LT.out).mono ?_
          rintro e y4 ⟨⟨b, N, cc, EL, t, cd, dd, hM, rfl, ho⟩, hb⟩
          replace PZ : Hid (Box2 y4 pb 29 (.int .i64 0) (.string ⟨#[]⟩)) := PZ.out.below hb
          replace XT : Hid (Els y4 3 (some ⟨gt, 0, none⟩) n (fiF FI)) := XT.out.below hb
          replace LT : Hid (LtS gt y4) := LT.out.below hb
          have BW : w.heap.size ≤ y3.heap.size := Nat.le_trans AV.out.size H.size
          replace H : Below V.heap.size V y4 := H.trans (hb.mono H.size)
          have EW : Hid (EO y4 w.heap.size 51 3 (.slice b N cc) N (fiF EL)) := ho.mono BW
          have HM : Hid (CfIs n FI x N EL t cd dd) := hM
          clear hb BW ho
          refine hK.out _ _ H (fun _ => ?_)
          clear hK KK
          change wpAnyH _ _ _ _ _ _ _ { tmps := #[_, _, _, _, _, _, _, _, _, _, _, _, _, _, _, _, _, _, _, _, _, _, _, _, _, _, _, _, _, _, _, _, _, _, _, _, _, _, _, _, _, _, _, _, _, _, _, _, _, _, _, _, _, _, _, _, _, _, _, _, _, _, _, _, _, _, _, _, _, _, _, _, _, _, _, _, _, _, _, _, _, _, _, _, _, _, _, _, _, _, _, _, _, _, _, _, _, _, _, _, _, _, _, _, _, _, _, _, _, _, _, _, _, _, _, _, _, _, _, _, _, _, _, _, _, _, _, _, _, _, _, _, _], defers := _ } _
          refine wpAnyH_take (i := 5) (v := .tuple #[.slice b N cc, .agg #[.int .i64 cd, .string t], .int .i64 dd]) rfl (by kernel_rfl) (by kernel_rfl) (by kernel_rfl) (fun _ _ _ h => h) (Or.inl ⟨by rfl, ?_⟩) H ?_
          · intro w' hSw; clear hSw; go_simp
          change wpAnyH _ _ _ _ _ _ _ { tmps := #[_, _, _, _, _, _, _, _, _, _, _, _, _, _, _, _, _, _, _, _, _, _, _, _, _, _, _, _, _, _, _, _, _, _, _, _, _, _, _, _, _, _, _, _, _, _, _, _, _, _, _, _, _, _, _, _, _, _, _, _, _, _, _, _, _, _, _, _, _, _, _, _, _, _, _, _, _, _, _, _, _, _, _, _, _, _, _, _, _, _, _, _, _, _, _, _, _, _, _, _, _, _, _, _, _, _, _, _, _, _, _, _, _, _, _, _, _, _, _, _, _, _, _, _, _, _, _, _, _, _, _, _, _], defers := _ } _
          refine wpAnyH_take (i := 6) (v := .slice b N cc) rfl (by kernel_rfl) (by kernel_rfl) (by kernel_rfl) (fun _ _ _ h => h) (Or.inl ⟨by rfl, ?_⟩) H ?_
          · intro w' hSw; clear hSw; go_simp
          change wpAnyH _ _ _ _ _ _ _ { tmps := #[_, _, _, _, _, _, _, _, _, _, _, _, _, _, _, _, _, _, _, _, _, _, _, _, _, _, _, _, _, _, _, _, _, _, _, _, _, _, _, _, _, _, _, _, _, _, _, _, _, _, _, _, _, _, _, _, _, _, _, _, _, _, _, _, _, _, _, _, _, _, _, _, _, _, _, _, _, _, _, _, _, _, _, _, _, _, _, _, _, _, _, _, _, _, _, _, _, _, _, _, _, _, _, _, _, _, _, _, _, _, _, _, _, _, _, _, _, _, _, _, _, _, _, _, _, _, _, _, _, _, _, _, _], defers := _ } _
          refine wpAnyH_take (i := 7) (v := .agg #[.int .i64 cd, .string t]) rfl (by kernel_rfl) (by kernel_rfl) (by kernel_rfl) (fun _ _ _ h => h) (Or.inl ⟨by rfl, ?_⟩) H ?_
          · intro w' hSw; clear hSw; go_simp
          change wpAnyH _ _ _ _ _ _ _ { tmps := #[_, _, _, _, _, _, _, _, _, _, _, _, _, _, _, _, _, _, _, _, _, _, _, _, _, _, _, _, _, _, _, _, _, _, _, _, _, _, _, _, _, _, _, _, _, _, _, _, _, _, _, _, _, _, _, _, _, _, _, _, _, _, _, _, _, _, _, _, _, _, _, _, _, _, _, _, _, _, _, _, _, _, _, _, _, _, _, _, _, _, _, _, _, _, _, _, _, _, _, _, _, _, _, _, _, _, _, _, _, _, _, _, _, _, _, _, _, _, _, _, _, _, _, _, _, _, _, _, _, _, _, _, _], defers := _ } _
          refine wpAnyH_take (i := 8) (v := .int .i64 dd) rfl (by kernel_rfl) (by kernel_rfl) (by kernel_rfl) (fun _ _ _ h => h) (Or.inl ⟨by rfl, ?_⟩) H ?_
          · intro w' hSw; clear hSw; go_simp
          change wpAnyH _ _ _ _ _ _ _ { tmps := #[_, _, _, _, _, _, _, _, _, _, _, _, _, _, _, _, _, _, _, _, _, _, _, _, _, _, _, _, _, _, _, _, _, _, _, _, _, _, _, _, _, _, _, _, _, _, _, _, _, _, _, _, _, _, _, _, _, _, _, _, _, _, _, _, _, _, _, _, _, _, _, _, _, _, _, _, _, _, _, _, _, _, _, _, _, _, _, _, _, _, _, _, _, _, _, _, _, _, _, _, _, _, _, _, _, _, _, _, _, _, _, _, _, _, _, _, _, _, _, _, _, _, _, _, _, _, _, _, _, _, _, _, _], defers := _ } _
          refine wpAnyH_take (i := 10) (v := .slice b N cc) rfl (by kernel_rfl) (by kernel_rfl) (by kernel_rfl) (fun _ _ _ h => h) (Or.inl ⟨by rfl, ?_⟩) H ?_
          · intro w' hSw; clear hSw; go_simp
          change wpAnyH _ _ _ _ _ _ _ { tmps := #[_, _, _, _, _, _, _, _, _, _, _, _, _, _, _, _, _, _, _, _, _, _, _, _, _, _, _, _, _, _, _, _, _, _, _, _, _, _, _, _, _, _, _, _, _, _, _, _, _, _, _, _, _, _, _, _, _, _, _, _, _, _, _, _, _, _, _, _, _, _, _, _, _, _, _, _, _, _, _, _, _, _, _, _, _, _, _, _, _, _, _, _, _, _, _, _, _, _, _, _, _, _, _, _, _, _, _, _, _, _, _, _, _, _, _, _, _, _, _, _, _, _, _, _, _, _, _, _, _, _, _, _, _], defers := _ } _
          refine wpAnyH_ready (rs := [11]) (by kernel_rfl) (by simp) ?_
          refine (AllReadyH.cons rfl (fun KK hK => ?_) AllReadyH.nil)
          have k0 := PZ.out.c0
          have k1 := PZ.out.c1
          have f0 := PZ.out.fr 0
          have f1 := PZ.out.fr 1
          go_simp
          have K9 : Hid (Box2 ((y4.setCell ⟨pb, 0, none⟩ (.int .i64 cd)).setCell ⟨pb, 1, none⟩ (.string t)) pb 29 (.int .i64 cd) (.string t)) := PZ.out.vr cd t
          have E9 : Hid (EO ((y4.setCell ⟨pb, 0, none⟩ (.int .i64 cd)).setCell ⟨pb, 1, none⟩ (.string t)) w.heap.size 51 3 (.slice b N cc) N (fiF EL)) := by
            refine EW.out.keep (fun g e => ?_)
            have hg : g ≠ pb := fun e2 => EW.out.notBoxC PZ.out (by decide) (e2 ▸ e)
            rw [Below.heap_setCell _ ⟨pb, 1, none⟩ _ g hg, Below.heap_setCell _ ⟨pb, 0, none⟩ _ g hg]
          replace H : Below V.heap.size V ((y4.setCell ⟨pb, 0, none⟩ (.int .i64 cd)).setCell ⟨pb, 1, none⟩ (.string t)) := (H.setCell (p := ⟨pb, 0, none⟩) Lpb.out _).setCell (p := ⟨pb, 1, none⟩) Lpb.out _
          clear k0 k1 f0 f1 PZ EW
          generalize ((y4.setCell ⟨pb, 0, none⟩ (.int .i64 cd)).setCell ⟨pb, 1, none⟩ (.string t)) = y5 at *
          refine hK.out _ _ H (fun _ => ?_)
          clear hK KK
          change wpAnyH _ _ _ _ _ _ _ { tmps := #[_, _, _, _, _, _, _, _, _, _, _, _, _, _, _, _, _, _, _, _, _, _, _, _, _, _, _, _, _, _, _, _, _, _, _, _, _, _, _, _, _, _, _, _, _, _, _, _, _, _, _, _, _, _, _, _, _, _, _, _, _, _, _, _, _, _, _, _, _, _, _, _, _, _, _, _, _, _, _, _, _, _, _, _, _, _, _, _, _, _, _, _, _, _, _, _, _, _, _, _, _, _, _, _, _, _, _, _, _, _, _, _, _, _, _, _, _, _, _, _, _, _, _, _, _, _, _, _, _, _, _, _, _], defers := _ } _
          refine wpAnyH_take (i := 12) (v := .int .i64 dd) rfl (by kernel_rfl) (by kernel_rfl) (by kernel_rfl) (fun _ _ _ h => h) (Or.inl ⟨by rfl, ?_⟩) H ?_
          · intro w' hSw; clear hSw; go_simp
          change wpAnyH _ _ _ _ _ _ _ { tmps := #[_, _, _, _, _, _, _, _, _, _, _, _, _, _, _, _, _, _, _, _, _, _, _, _, _, _, _, _, _, _, _, _, _, _, _, _, _, _, _, _, _, _, _, _, _, _, _, _, _, _, _, _, _, _, _, _, _, _, _, _, _, _, _, _, _, _, _, _, _, _, _, _, _, _, _, _, _, _, _, _, _, _, _, _, _, _, _, _, _, _, _, _, _, _, _, _, _, _, _, _, _, _, _, _, _, _, _, _, _, _, _, _, _, _, _, _, _, _, _, _, _, _, _, _, _, _, _, _, _, _, _, _, _], defers := _ } _
          refine wpAnyH_done (by kernel_rfl) ?_ _
          refine NoPanic.normal ?_
          change Exit.then _ _ Exit.normal { tmps := #[_, _, _, _, _, _, _, _, _, _, _, _, _, _, _, _, _, _, _, _, _, _, _, _, _, _, _, _, _, _, _, _, _, _, _, _, _, _, _, _, _, _, _, _, _, _, _, _, _, _, _, _, _, _, _, _, _, _, _, _, _, _, _, _, _, _, _, _, _, _, _, _, _, _, _, _, _, _, _, _, _, _, _, _, _, _, _, _, _, _, _, _, _, _, _, _, _, _, _, _, _, _, _, _, _, _, _, _, _, _, _, _, _, _, _, _, _, _, _, _, _, _, _, _, _, _, _, _, _, _, _, _, _], defers := _ } _
          go_wp2_with fail
          go_meet
          exact ⟨pb, b, cc, N, EL, t, cd, dd, rfl, rfl, rfl, HM.out, K9.out, E9.out, XL.out.below H, AV.out.trans (H.mono AV.out.size)⟩
      case rest =>
      obtain ⟨pb, b, cc, N, EL, t, cd, dd, rfl, rfl, rfl, hM, hx9, ho9, fXL, hb⟩ := hcut
      replace A1 : Hid (Below w.heap.size w wc) := hb
      replace XL : Hid (FclL wc w.heap.size x) := fXL
      generalize wc = wc1 at *
      obtain ⟨pw, hrw, hpw⟩ := ho9.rowE
      have HM : Hid (CfIs n FI x N EL t cd dd) := hM
      have Rw : Hid (RowE wc1 3 b pw N (fiF EL)) := hrw
      have VW : Hid (Box2 wc1 pb 29 (.int .i64 cd) (.string t)) := hx9
      have LW : Hid (0 < N → LtS pw wc1) := fun z => hrw.lt (by omega) z
      have LPB : Hid (LtS pb wc1) := hx9.lt
      have hN : N ≤ 12 := hM.out.bound
      have IY : Hid (∀ (g : Nat) (w : World), Els w 3 (some ⟨g, 0, none⟩) n (fiF FI) → Calls Tryz.prog 7 #[.slice (some ⟨g, 0, none⟩) n n, .agg #[.int .i64 x.k, .int .i64 x.a, .int .i64 x.n, .string x.p, .string x.o, .string x.d]] w fun e w' => (∃ (b : Option Addr) (cc : Nat), e = .returned (.tuple #[.slice b N cc, .agg #[.int .i64 cd, .string t], .int .i64 dd]) ∧ EO w' w.heap.size 51 3 (.slice b N cc) N (fiF EL)) ∧ Below w.heap.size w w') := IY0.out N EL t cd dd hM.out
      have ES : Hid (∀ (b e : Option Addr) (x y : Nat) (w : World), Els w 3 b N (fiF EL) → Els w 3 e N (fiF EL) → Calls Tryz.prog 15 #[.slice b N x, .slice e N y] w fun e w' => e = .returned (.bool true) ∧ Below w.heap.size w w') := fun b e x y w h h' => eqFileS_yes b e N x y EL w h h' (by omega)
      have MS : Hid (∀ (b : Option Addr) (g x : Nat) (w : World), RowE w 3 b g N (fiF EL) → Calls Tryz.prog 17 #[.slice b N x, .int .i64 1] w fun e w' => (e = .returned (.int .i64 ((1 + 3 * N : Nat) : Int)) ∧ RowE w' 3 b g N (fiF (fiM 1))) ∧ TurnedE g N w w') := fun b g x w h => (markFileK b g N x 1 EL (by omega) (by omega) w h).mono fun _ _ q => ⟨⟨q.1, q.2.1⟩, q.2.2⟩
      have HD : Hid (∀ (b : Option Addr) (x : Nat) (w : World), Els w 3 b N (fiF (fiM 1)) → Calls Tryz.prog 18 #[.slice b N x, .int .i64 1] w fun e w' => e = .returned (.int .i64 ((1 + 3 * N : Nat) : Int)) ∧ Below w.heap.size w w') := fun b x w h => heldFileK b N x 1 (by omega) (by omega) w h
      have kz : ¬ ((1 + 3 * N : Nat) : Int) < 0 := by omega
      have ke : (((1 + 3 * N : Nat) : Int) != ((1 + 3 * N : Nat) : Int)) = false := by simp
      have rr : (dd != dd) = false := by simp
      generalize ((1 + 3 * N : Nat) : Int) = K1 at *
      clear hM IY0 hN hrw hpw hx9 ho9 SO HM
      go_wp2_with fail
      have AP : Hid _ := A1.out.size
      have zLW := LW.out
      have zLPB := LPB.out
      have zXL := XL.out.lt
      refine (TO.out _ (HE.out.below A1.out)).mono ?_
      rintro e v3 ⟨⟨gb, rfl, hrb, hgb, hlb⟩, hb⟩
      replace A1 : Hid (Below w.heap.size w v3) := A1.out.trans (hb.mono A1.out.size)
      replace XL : Hid (FclL v3 w.heap.size x) := XL.out.below hb
      replace Rw : Hid (RowE v3 3 b pw N (fiF EL)) := Rw.out.below (by omega) hb
      replace VW : Hid (Box2 v3 pb 29 (.int .i64 cd) (.string t)) := VW.out.below hb
      replace LW : Hid (0 < N → LtS pw v3) := fun z => (LW.out z).below hb
      replace LPB : Hid (LtS pb v3) := LPB.out.below hb
      have Xb : Hid (RowE v3 3 (some ⟨gb, 0, none⟩) gb n (fiF FI)) := hrb
      have Lb : Hid (w.heap.size ≤ gb) := Nat.le_trans AP.out hgb
      clear hb hrb AP
      have WB : Hid (0 < N → pw ≠ gb) := fun z => by have := zLW z; unfold LtS at this; omega
      have PGB : Hid (pb ≠ gb) := by unfold LtS at zLPB; show _ ≠ _; omega
      have QGB : Hid (w.heap.size ≠ gb) := by show _ ≠ _; omega
      have LB : Hid (LtS gb v3) := hlb
      clear hgb hlb zLW zLPB zXL
      obtain ⟨x0, x1, x2, x3, x4, x5⟩ := XL.out.c
      go_wp2_with fail
      refine (TC.out _).mono ?_
      rintro e v4 ⟨rfl, hb⟩
      replace A1 : Hid (Below w.heap.size w v4) := A1.out.trans (hb.mono A1.out.size)
      replace XL : Hid (FclL v4 w.heap.size x) := XL.out.below hb
      replace Rw : Hid (RowE v4 3 b pw N (fiF EL)) := Rw.out.below (by omega) hb
      replace VW : Hid (Box2 v4 pb 29 (.int .i64 cd) (.string t)) := VW.out.below hb
      replace LW : Hid (0 < N → LtS pw v4) := fun z => (LW.out z).below hb
      replace LPB : Hid (LtS pb v4) := LPB.out.below hb
      replace Xb : Hid (RowE v4 3 (some ⟨gb, 0, none⟩) gb n (fiF FI)) := Xb.out.below (by omega) hb
      replace LB : Hid (LtS gb v4) := LB.out.below hb
      clear hb x0 x1 x2 x3 x4 x5
      have zLW := LW.out
      have zLB := LB.out
      have zLPB := LPB.out
      have AQ : Hid _ := A1.out.size
      go_wp2_with fail
      refine (IY.out _ _ Xb.out.els).mono ?_
      rintro e v5 ⟨⟨bg, cg, rfl, hog⟩, hb⟩
      replace A1 : Hid (Below w.heap.size w v5) := A1.out.trans (hb.mono A1.out.size)
      replace XL : Hid (FclL v5 w.heap.size x) := XL.out.below hb
      replace Rw : Hid (RowE v5 3 b pw N (fiF EL)) := Rw.out.below (by omega) hb
      replace VW : Hid (Box2 v5 pb 29 (.int .i64 cd) (.string t)) := VW.out.below hb
      replace LW : Hid (0 < N → LtS pw v5) := fun z => (LW.out z).below hb
      replace LPB : Hid (LtS pb v5) := LPB.out.below hb
      replace Xb : Hid (RowE v5 3 (some ⟨gb, 0, none⟩) gb n (fiF FI)) := Xb.out.below (by omega) hb
      replace LB : Hid (LtS gb v5) := LB.out.below hb
      clear hb 
      obtain ⟨pg, hrg, hpg⟩ := hog.rowE
      have GW : Hid (0 < N → pw ≠ pg) := fun z => by have h1 := zLW z; have h2 := hpg z; unfold LtS at h1; omega
      have GX : Hid (0 < N → pg ≠ gb) := fun z => by have h2 := hpg z; unfold LtS at zLB; omega
      have GV : Hid (0 < N → pb ≠ pg) := fun z => by have h2 := hpg z; unfold LtS at zLPB; omega
      have GQ : Hid (0 < N → w.heap.size ≠ pg) := fun z => by have h1 := hpg z; have h2 := AQ.out; have h3 := GX.out z; unfold LtS at zLB; have h4 := Lb.out; omega
      have GL : Hid (0 < N → w.heap.size ≤ pg) := fun z => Nat.le_trans AQ.out (hpg z)
      have Rg : Hid (RowE v5 3 bg pg N (fiF EL)) := hrg
      have LG1 : Hid (0 < N → LtS pg v5) := fun z => hrg.lt (by omega) z
      clear zLW zLB zLPB AQ hog hrg hpg
      have hb : Below v5.heap.size v5 (v5.alloc (.cells #[.int .i64 cd, .string t] 29)) := (Below.refl _ _).alloc (Nat.le_refl _) _
      have VG : Hid (Box2 (v5.alloc (.cells #[.int .i64 cd, .string t] 29)) v5.heap.size 29 (.int .i64 cd) (.string t)) := Box2.made _ _ _ _
      have Q1 : Hid (v5.heap.size ≠ gb) := by have := LB.out; unfold LtS at this; show _ ≠ _; omega
      have Q2 : Hid (0 < N → v5.heap.size ≠ pg) := fun z => by have := LG1.out z; unfold LtS at this; omega
      clear LG1
      go_wp2_with fail
      generalize (v5.alloc (.cells #[.int .i64 cd, .string t] 29)) = v6 at *
      replace A1 : Hid (Below w.heap.size w v6) := A1.out.trans (hb.mono A1.out.size)
      replace XL : Hid (FclL v6 w.heap.size x) := XL.out.below hb
      replace Rw : Hid (RowE v6 3 b pw N (fiF EL)) := Rw.out.below (by omega) hb
      replace VW : Hid (Box2 v6 pb 29 (.int .i64 cd) (.string t)) := VW.out.below hb
      replace LW : Hid (0 < N → LtS pw v6) := fun z => (LW.out z).below hb
      replace LPB : Hid (LtS pb v6) := LPB.out.below hb
      replace Xb : Hid (RowE v6 3 (some ⟨gb, 0, none⟩) gb n (fiF FI)) := Xb.out.below (by omega) hb
      replace LB : Hid (LtS gb v6) := LB.out.below hb
      replace Rg : Hid (RowE v6 3 bg pg N (fiF EL)) := Rg.out.below (by omega) hb
      clear hb
      obtain ⟨pv, hpv⟩ : ∃ q, q = v5.heap.size := ⟨_, rfl⟩
      rw [← hpv] at VG Q1 Q2 ⊢
      clear hpv
      clear LW LPB LB
      refine (ES.out _ _ _ _ _ Rg.out.els Rw.out.els).mono ?_
      rintro e v7 ⟨rfl, hb⟩
      replace A1 : Hid (Below w.heap.size w v7) := A1.out.trans (hb.mono A1.out.size)
      replace XL : Hid (FclL v7 w.heap.size x) := XL.out.below hb
      replace Rw : Hid (RowE v7 3 b pw N (fiF EL)) := Rw.out.below (by omega) hb
      replace VW : Hid (Box2 v7 pb 29 (.int .i64 cd) (.string t)) := VW.out.below hb
      replace Xb : Hid (RowE v7 3 (some ⟨gb, 0, none⟩) gb n (fiF FI)) := Xb.out.below (by omega) hb
      replace Rg : Hid (RowE v7 3 bg pg N (fiF EL)) := Rg.out.below (by omega) hb
      replace VG : Hid (Box2 v7 pv 29 (.int .i64 cd) (.string t)) := VG.out.below hb
      clear hb 
      have s00 := VG.out.c0
      have s01 := VG.out.c1
      have s10 := VW.out.c0
      have s11 := VW.out.c1
      go_wp2_with fail
      refine (EV.out _ _ _).mono ?_
      rintro e v8 ⟨rfl, hb⟩
      replace A1 : Hid (Below w.heap.size w v8) := A1.out.trans (hb.mono A1.out.size)
      replace XL : Hid (FclL v8 w.heap.size x) := XL.out.below hb
      replace Rw : Hid (RowE v8 3 b pw N (fiF EL)) := Rw.out.below (by omega) hb
      replace VW : Hid (Box2 v8 pb 29 (.int .i64 cd) (.string t)) := VW.out.below hb
      replace Xb : Hid (RowE v8 3 (some ⟨gb, 0, none⟩) gb n (fiF FI)) := Xb.out.below (by omega) hb
      replace Rg : Hid (RowE v8 3 bg pg N (fiF EL)) := Rg.out.below (by omega) hb
      replace VG : Hid (Box2 v8 pv 29 (.int .i64 cd) (.string t)) := VG.out.below hb
      clear hb 
      clear s00 s01 s10 s11
      go_wp2_with fail
      have AP : Hid _ := A1.out.size
      refine (TO.out _ (HE.out.below A1.out)).mono ?_
      rintro e v9 ⟨⟨gc, rfl, hrc, hgc, hlc⟩, hb⟩
      replace A1 : Hid (Below w.heap.size w v9) := A1.out.trans (hb.mono A1.out.size)
      replace XL : Hid (FclL v9 w.heap.size x) := XL.out.below hb
      replace Rw : Hid (RowE v9 3 b pw N (fiF EL)) := Rw.out.below (by omega) hb
      replace VW : Hid (Box2 v9 pb 29 (.int .i64 cd) (.string t)) := VW.out.below hb
      replace Xb : Hid (RowE v9 3 (some ⟨gb, 0, none⟩) gb n (fiF FI)) := Xb.out.below (by omega) hb
      replace Rg : Hid (RowE v9 3 bg pg N (fiF EL)) := Rg.out.below (by omega) hb
      replace VG : Hid (Box2 v9 pv 29 (.int .i64 cd) (.string t)) := VG.out.below hb
      have Xc : Hid (RowE v9 3 (some ⟨gc, 0, none⟩) gc n (fiF FI)) := hrc
      have Lc : Hid (w.heap.size ≤ gc) := Nat.le_trans AP.out hgc
      clear hb hrc AP
      clear hgc hlc Lc
      go_wp2_with fail
      refine (EQ.out _ _ _ _ _ Xb.out.els Xc.out.els).mono ?_
      rintro e v10 ⟨rfl, hb⟩
      replace A1 : Hid (Below w.heap.size w v10) := A1.out.trans (hb.mono A1.out.size)
      replace XL : Hid (FclL v10 w.heap.size x) := XL.out.below hb
      replace Rw : Hid (RowE v10 3 b pw N (fiF EL)) := Rw.out.below (by omega) hb
      replace VW : Hid (Box2 v10 pb 29 (.int .i64 cd) (.string t)) := VW.out.below hb
      replace Xb : Hid (RowE v10 3 (some ⟨gb, 0, none⟩) gb n (fiF FI)) := Xb.out.below (by omega) hb
      replace Rg : Hid (RowE v10 3 bg pg N (fiF EL)) := Rg.out.below (by omega) hb
      replace VG : Hid (Box2 v10 pv 29 (.int .i64 cd) (.string t)) := VG.out.below hb
      replace Xc : Hid (RowE v10 3 (some ⟨gc, 0, none⟩) gc n (fiF FI)) := Xc.out.below (by omega) hb
      clear hb EQ
      clear Xc
      go_wp2_with fail
      refine (MR.out _ _ Xb.out).mono ?_
      rintro e v11 ⟨rfl, hto⟩
      replace A1 : Hid (Below w.heap.size w v11) := A1.out.trans (hto.toBelow (fun _ => Lb.out) A1.out.size)
      replace XL : Hid (FclL v11 w.heap.size x) := XL.out.ofBlock (hto.block XL.out.lt (fun z => QGB.out))
      replace Rw : Hid (RowE v11 3 b pw N (fiF EL)) := Rw.out.turned (by omega) hto (fun z _ => WB.out z)
      replace VW : Hid (Box2 v11 pb 29 (.int .i64 cd) (.string t)) := VW.out.turned hto (fun z => PGB.out)
      replace Rg : Hid (RowE v11 3 bg pg N (fiF EL)) := Rg.out.turned (by omega) hto (fun z _ => GX.out z)
      replace VG : Hid (Box2 v11 pv 29 (.int .i64 cd) (.string t)) := VG.out.turned hto (fun z => Q1.out)
      clear hto MR Xb WB GX Lb PGB Q1 QGB
      go_wp2_with fail
      refine (ES.out _ _ _ _ _ Rg.out.els Rw.out.els).mono ?_
      rintro e v12 ⟨rfl, hb⟩
      replace A1 : Hid (Below w.heap.size w v12) := A1.out.trans (hb.mono A1.out.size)
      replace XL : Hid (FclL v12 w.heap.size x) := XL.out.below hb
      replace Rw : Hid (RowE v12 3 b pw N (fiF EL)) := Rw.out.below (by omega) hb
      replace VW : Hid (Box2 v12 pb 29 (.int .i64 cd) (.string t)) := VW.out.below hb
      replace Rg : Hid (RowE v12 3 bg pg N (fiF EL)) := Rg.out.below (by omega) hb
      replace VG : Hid (Box2 v12 pv 29 (.int .i64 cd) (.string t)) := VG.out.below hb
      clear hb 
      have s00 := VG.out.c0
      have s01 := VG.out.c1
      have s10 := VW.out.c0
      have s11 := VW.out.c1
      go_wp2_with fail
      refine (EV.out _ _ _).mono ?_
      rintro e v13 ⟨rfl, hb⟩
      replace A1 : Hid (Below w.heap.size w v13) := A1.out.trans (hb.mono A1.out.size)
      replace XL : Hid (FclL v13 w.heap.size x) := XL.out.below hb
      replace Rw : Hid (RowE v13 3 b pw N (fiF EL)) := Rw.out.below (by omega) hb
      replace VW : Hid (Box2 v13 pb 29 (.int .i64 cd) (.string t)) := VW.out.below hb
      replace Rg : Hid (RowE v13 3 bg pg N (fiF EL)) := Rg.out.below (by omega) hb
      replace VG : Hid (Box2 v13 pv 29 (.int .i64 cd) (.string t)) := VG.out.below hb
      clear hb 
      clear s00 s01 s10 s11
      go_wp2_with fail
      refine (MS.out _ _ _ _ Rg.out).mono ?_
      rintro e v14 ⟨⟨rfl, hmr⟩, hto⟩
      replace A1 : Hid (Below w.heap.size w v14) := A1.out.trans (hto.toBelow (fun z => GL.out z) A1.out.size)
      replace XL : Hid (FclL v14 w.heap.size x) := XL.out.ofBlock (hto.block XL.out.lt (fun z => GQ.out z))
      replace Rw : Hid (RowE v14 3 b pw N (fiF EL)) := Rw.out.turned (by omega) hto (fun z _ => GW.out z)
      replace VW : Hid (Box2 v14 pb 29 (.int .i64 cd) (.string t)) := VW.out.turned hto (fun z => GV.out z)
      replace VG : Hid (Box2 v14 pv 29 (.int .i64 cd) (.string t)) := VG.out.turned hto (fun z => Q2.out z)
      clear Rg
      have Rg : Hid (Els v14 3 bg N (fiF (fiM 1))) := hmr.els
      clear hto hmr MS GW GL GV Q2 GQ
      go_wp2_with fail
      refine (HD.out _ _ _ Rg.out).mono ?_
      rintro e v15 ⟨rfl, hb⟩
      replace A1 : Hid (Below w.heap.size w v15) := A1.out.trans (hb.mono A1.out.size)
      replace XL : Hid (FclL v15 w.heap.size x) := XL.out.below hb
      replace Rw : Hid (RowE v15 3 b pw N (fiF EL)) := Rw.out.below (by omega) hb
      replace VW : Hid (Box2 v15 pb 29 (.int .i64 cd) (.string t)) := VW.out.below hb
      replace VG : Hid (Box2 v15 pv 29 (.int .i64 cd) (.string t)) := VG.out.below hb
      replace Rg : Hid (Els v15 3 bg N (fiF (fiM 1))) := Rg.out.below hb
      clear hb 
      go_wp2_with fail
      generalize hV : v15 = V at *
      clear hV
      go_cut [16, 17, 18] (fun s p d wx => ∃ (ph : Nat) (bh : Option Addr) (ch : Nat), s = .slice bh N ch ∧ p = .pointer (some ⟨ph, 0, none⟩) ∧ d = .int .i64 dd ∧ True ∧ Box2 wx ph 29 (.int .i64 cd) (.string t) ∧ EO wx w.heap.size 51 3 (.slice bh N ch) N (fiF EL) ∧ (RowE wx 3 b pw N (fiF EL)) ∧ (Box2 wx pb 29 (.int .i64 cd) (.string t)) ∧ (Els wx 3 bg N (fiF (fiM 1))) ∧ Below w.heap.size w wx)
      case first =>
        have XV : Hid (FclL V w.heap.size x) := XL.out
        have HV : Hid (Els V 3 a n (fiF FI)) := HE.out.below A1.out
        have AV : Hid (Below w.heap.size w V) := A1.out
        have H : Below V.heap.size V V.drew := (Below.refl _ _).drew
        refine wp_region_noPanic ?_
        refine wp_region_held_drew (S := fun w' => Below V.heap.size V w') (by kernel_rfl) H (fun _ => ?_)
        generalize V.drew = y0 at *
        refine wpAnyH_take (i := 0) (v := .slice a n c) rfl (by kernel_rfl) (by kernel_rfl) (by kernel_rfl) (fun _ _ _ h => h) (Or.inl ⟨by rfl, ?_⟩) H ?_
        · intro w' hSw; clear hSw; go_simp
        change wpAnyH _ _ _ _ _ _ _ { tmps := #[_, _, _, _, _, _, _, _, _, _, _, _, _, _, _, _, _, _, _, _, _, _, _, _, _, _, _, _, _, _, _, _, _, _, _, _, _, _, _, _, _, _, _, _, _, _, _, _, _, _, _, _, _, _, _, _, _, _, _, _, _, _, _, _, _, _, _, _, _, _, _, _, _, _, _, _, _, _, _, _, _, _, _, _, _, _, _, _, _, _, _, _, _, _, _, _, _, _, _, _, _, _, _, _, _, _, _, _, _, _, _, _, _, _, _, _, _, _, _, _, _, _, _, _, _, _, _, _, _, _, _, _, _], defers := _ } _
        refine wpAnyH_take (i := 2) (v := .agg #[.int .i64 x.k, .int .i64 x.a, .int .i64 x.n, .string x.p, .string x.o, .string x.d]) rfl (by kernel_rfl) (by kernel_rfl) (by kernel_rfl) (fun _ _ _ h => h) (Or.inl ⟨by rfl, ?_⟩) H ?_
        · intro w' hSw; obtain ⟨x0, x1, x2, x3, x4, x5⟩ := (XV.out.below hSw).c; clear hSw; go_simp
        change wpAnyH _ _ _ _ _ _ _ { tmps := #[_, _, _, _, _, _, _, _, _, _, _, _, _, _, _, _, _, _, _, _, _, _, _, _, _, _, _, _, _, _, _, _, _, _, _, _, _, _, _, _, _, _, _, _, _, _, _, _, _, _, _, _, _, _, _, _, _, _, _, _, _, _, _, _, _, _, _, _, _, _, _, _, _, _, _, _, _, _, _, _, _, _, _, _, _, _, _, _, _, _, _, _, _, _, _, _, _, _, _, _, _, _, _, _, _, _, _, _, _, _, _, _, _, _, _, _, _, _, _, _, _, _, _, _, _, _, _, _, _, _, _, _, _], defers := _ } _
        refine wpAnyH_ready (rs := [1, 9]) (by kernel_rfl) (by simp) ?_
        refine (AllReadyH.cons rfl (fun KK hK => ?_) (AllReadyH.cons rfl (fun KK hK => ?_) AllReadyH.nil))
        · skip
          go_simp
          refine (TO.out _ (HV.out.below H)).mono ?_
          rintro e y1 ⟨⟨gt, rfl, hrt, hgt, hlt⟩, hb⟩
          replace H : Below V.heap.size V y1 := H.trans (hb.mono H.size)
          have XT : Hid (Els y1 3 (some ⟨gt, 0, none⟩) n (fiF FI)) := hrt.els
          have LT : Hid (LtS gt y1) := hlt
          clear hb hrt hgt hlt
          refine hK.out _ _ H (fun _ => ?_)
          clear hK KK
          change wpAnyH _ _ _ _ _ _ _ { tmps := #[_, _, _, _, _, _, _, _, _, _, _, _, _, _, _, _, _, _, _, _, _, _, _, _, _, _, _, _, _, _, _, _, _, _, _, _, _, _, _, _, _, _, _, _, _, _, _, _, _, _, _, _, _, _, _, _, _, _, _, _, _, _, _, _, _, _, _, _, _, _, _, _, _, _, _, _, _, _, _, _, _, _, _, _, _, _, _, _, _, _, _, _, _, _, _, _, _, _, _, _, _, _, _, _, _, _, _, _, _, _, _, _, _, _, _, _, _, _, _, _, _, _, _, _, _, _, _, _, _, _, _, _, _], defers := _ } _
          refine wpAnyH_ready (rs := [3, 9]) (by kernel_rfl) (by simp) ?_
          refine (AllReadyH.cons rfl (fun KK hK => ?_) (AllReadyH.cons rfl (fun KK hK => ?_) AllReadyH.nil))
          · skip
            go_simp
            refine (TC.out _).mono ?_
            rintro e y2 ⟨rfl, hb⟩
            replace XT : Hid (Els y2 3 (some ⟨gt, 0, none⟩) n (fiF FI)) := XT.out.below hb
            replace LT : Hid (LtS gt y2) := LT.out.below hb
            replace H : Below V.heap.size V y2 := H.trans (hb.mono H.size)
            clear hb
            refine hK.out _ _ H (fun _ => ?_)
            clear hK KK
            change wpAnyH _ _ _ _ _ _ _ { tmps := #[_, _, _, _, _, _, _, _, _, _, _, _, _, _, _, _, _, _, _, _, _, _, _, _, _, _, _, _, _, _, _, _, _, _, _, _, _, _, _, _, _, _, _, _, _, _, _, _, _, _, _, _, _, _, _, _, _, _, _, _, _, _, _, _, _, _, _, _, _, _, _, _, _, _, _, _, _, _, _, _, _, _, _, _, _, _, _, _, _, _, _, _, _, _, _, _, _, _, _, _, _, _, _, _, _, _, _, _, _, _, _, _, _, _, _, _, _, _, _, _, _, _, _, _, _, _, _, _, _, _, _, _, _], defers := _ } _
            refine wpAnyH_ready (rs := [4, 9]) (by kernel_rfl) (by simp) ?_
            refine (AllReadyH.cons rfl (fun KK hK => ?_) (AllReadyH.cons rfl (fun KK hK => ?_) AllReadyH.nil))
            · skip
              go_simp
              refine (IY.out _ _ XT.out).mono ?_
              rintro e y3 ⟨⟨bh, ch, rfl, ho⟩, hb⟩
              replace XT : Hid (Els y3 3 (some ⟨gt, 0, none⟩) n (fiF FI)) := XT.out.below hb
              replace LT : Hid (LtS gt y3) := LT.out.below hb
              have BW : w.heap.size ≤ y2.heap.size := Nat.le_trans AV.out.size H.size
              replace H : Below V.heap.size V y3 := H.trans (hb.mono H.size)
              have EW : Hid (EO y3 w.heap.size 51 3 (.slice bh N ch) N (fiF EL)) := ho.mono BW
              clear hb BW ho
              refine hK.out _ _ H (fun _ => ?_)
              clear hK KK
              change wpAnyH _ _ _ _ _ _ _ { tmps := #[_, _, _, _, _, _, _, _, _, _, _, _, _, _, _, _, _, _, _, _, _, _, _, _, _, _, _, _, _, _, _, _, _, _, _, _, _, _, _, _, _, _, _, _, _, _, _, _, _, _, _, _, _, _, _, _, _, _, _, _, _, _, _, _, _, _, _, _, _, _, _, _, _, _, _, _, _, _, _, _, _, _, _, _, _, _, _, _, _, _, _, _, _, _, _, _, _, _, _, _, _, _, _, _, _, _, _, _, _, _, _, _, _, _, _, _, _, _, _, _, _, _, _, _, _, _, _, _, _, _, _, _, _], defers := _ } _
              refine wpAnyH_take (i := 5) (v := .tuple #[.slice bh N ch, .agg #[.int .i64 cd, .string t], .int .i64 dd]) rfl (by kernel_rfl) (by kernel_rfl) (by kernel_rfl) (fun _ _ _ h => h) (Or.inl ⟨by rfl, ?_⟩) H ?_
              · intro w' hSw; clear hSw; go_simp
              change wpAnyH _ _ _ _ _ _ _ { tmps := #[_, _, _, _, _, _, _, _, _, _, _, _, _, _, _, _, _, _, _, _, _, _, _, _, _, _, _, _, _, _, _, _, _, _, _, _, _, _, _, _, _, _, _, _, _, _, _, _, _, _, _, _, _, _, _, _, _, _, _, _, _, _, _, _, _, _, _, _, _, _, _, _, _, _, _, _, _, _, _, _, _, _, _, _, _, _, _, _, _, _, _, _, _, _, _, _, _, _, _, _, _, _, _, _, _, _, _, _, _, _, _, _, _, _, _, _, _, _, _, _, _, _, _, _, _, _, _, _, _, _, _, _, _], defers := _ } _
              refine wpAnyH_take (i := 6) (v := .slice bh N ch) rfl (by kernel_rfl) (by kernel_rfl) (by kernel_rfl) (fun _ _ _ h => h) (Or.inl ⟨by rfl, ?_⟩) H ?_
              · intro w' hSw; clear hSw; go_simp
              change wpAnyH _ _ _ _ _ _ _ { tmps := #[_, _, _, _, _, _, _, _, _, _, _, _, _, _, _, _, _, _, _, _, _, _, _, _, _, _, _, _, _, _, _, _, _, _, _, _, _, _, _, _, _, _, _, _, _, _, _, _, _, _, _, _, _, _, _, _, _, _, _, _, _, _, _, _, _, _, _, _, _, _, _, _, _, _, _, _, _, _, _, _, _, _, _, _, _, _, _, _, _, _, _, _, _, _, _, _, _, _, _, _, _, _, _, _, _, _, _, _, _, _, _, _, _, _, _, _, _, _, _, _, _, _, _, _, _, _, _, _, _, _, _, _, _], defers := _ } _
              refine wpAnyH_take (i := 7) (v := .agg #[.int .i64 cd, .string t]) rfl (by kernel_rfl) (by kernel_rfl) (by kernel_rfl) (fun _ _ _ h => h) (Or.inl ⟨by rfl, ?_⟩) H ?_
              · intro w' hSw; clear hSw; go_simp
              change wpAnyH _ _ _ _ _ _ _ { tmps := #[_, _, _, _, _, _, _, _, _, _, _, _, _, _, _, _, _, _, _, _, _, _, _, _, _, _, _, _, _, _, _, _, _, _, _, _, _, _, _, _, _, _, _, _, _, _, _, _, _, _, _, _, _, _, _, _, _, _, _, _, _, _, _, _, _, _, _, _, _, _, _, _, _, _, _, _, _, _, _, _, _, _, _, _, _, _, _, _, _, _, _, _, _, _, _, _, _, _, _, _, _, _, _, _, _, _, _, _, _, _, _, _, _, _, _, _, _, _, _, _, _, _, _, _, _, _, _, _, _, _, _, _, _], defers := _ } _
              refine wpAnyH_take (i := 8) (v := .int .i64 dd) rfl (by kernel_rfl) (by kernel_rfl) (by kernel_rfl) (fun _ _ _ h => h) (Or.inl ⟨by rfl, ?_⟩) H ?_
              · intro w' hSw; clear hSw; go_simp
              change wpAnyH _ _ _ _ _ _ _ { tmps := #[_, _, _, _, _, _, _, _, _, _, _, _, _, _, _, _, _, _, _, _, _, _, _, _, _, _, _, _, _, _, _, _, _, _, _, _, _, _, _, _, _, _, _, _, _, _, _, _, _, _, _, _, _, _, _, _, _, _, _, _, _, _, _, _, _, _, _, _, _, _, _, _, _, _, _, _, _, _, _, _, _, _, _, _, _, _, _, _, _, _, _, _, _, _, _, _, _, _, _, _, _, _, _, _, _, _, _, _, _, _, _, _, _, _, _, _, _, _, _, _, _, _, _, _, _, _, _, _, _, _, _, _, _], defers := _ } _
              refine wpAnyH_ready (rs := [9]) (by kernel_rfl) (by simp) ?_
              refine (AllReadyH.cons rfl (fun KK hK => ?_) AllReadyH.nil)
              go_simp
              have hb : Below y3.heap.size y3 (y3.alloc (.cells #[.int .i64 0, .string ⟨#[]⟩] 29)) := (Below.refl _ _).alloc (Nat.le_refl _) _
              have PZ : Hid (Box2 (y3.alloc (.cells #[.int .i64 0, .string ⟨#[]⟩] 29)) y3.heap.size 29 (.int .i64 0) (.string ⟨#[]⟩)) := Box2.madeAt rfl _ _ _
              have Lph : Hid (V.heap.size ≤ y3.heap.size) := H.size
              replace XT : Hid (Els (y3.alloc (.cells #[.int .i64 0, .string ⟨#[]⟩] 29)) 3 (some ⟨gt, 0, none⟩) n (fiF FI)) := XT.out.below hb
              replace LT : Hid (LtS gt (y3.alloc (.cells #[.int .i64 0, .string ⟨#[]⟩] 29))) := LT.out.below hb
              replace EW : Hid (EO (y3.alloc (.cells #[.int .i64 0, .string ⟨#[]⟩] 29)) w.heap.size 51 3 (.slice bh N ch) N (fiF EL)) := EW.out.below hb
              replace H : Below V.heap.size V (y3.alloc (.cells #[.int .i64 0, .string ⟨#[]⟩] 29)) := H.trans (hb.mono H.size)
              clear hb
              refine hK.out _ _ H (fun _ => ?_)
              clear hK KK
              generalize (y3.alloc (.cells #[.int .i64 0, .string ⟨#[]⟩] 29)) = y4 at *
              generalize y3.heap.size = ph at *
              change wpAnyH _ _ _ _ _ _ _ { tmps := #[_, _, _, _, _, _, _, _, _, _, _, _, _, _, _, _, _, _, _, _, _, _, _, _, _, _, _, _, _, _, _, _, _, _, _, _, _, _, _, _, _, _, _, _, _, _, _, _, _, _, _, _, _, _, _, _, _, _, _, _, _, _, _, _, _, _, _, _, _, _, _, _, _, _, _, _, _, _, _, _, _, _, _, _, _, _, _, _, _, _, _, _, _, _, _, _, _, _, _, _, _, _, _, _, _, _, _, _, _, _, _, _, _, _, _, _, _, _, _, _, _, _, _, _, _, _, _, _, _, _, _, _, _], defers := _ } _
              refine wpAnyH_take (i := 10) (v := .slice bh N ch) rfl (by kernel_rfl) (by kernel_rfl) (by kernel_rfl) (fun _ _ _ h => h) (Or.inl ⟨by rfl, ?_⟩) H ?_
              · intro w' hSw; clear hSw; go_simp
              change wpAnyH _ _ _ _ _ _ _ { tmps := #[_, _, _, _, _, _, _, _, _, _, _, _, _, _, _, _, _, _, _, _, _, _, _, _, _, _, _, _, _, _, _, _, _, _, _, _, _, _, _, _, _, _, _, _, _, _, _, _, _, _, _, _, _, _, _, _, _, _, _, _, _, _, _, _, _, _, _, _, _, _, _, _, _, _, _, _, _, _, _, _, _, _, _, _, _, _, _, _, _, _, _, _, _, _, _, _, _, _, _, _, _, _, _, _, _, _, _, _, _, _, _, _, _, _, _, _, _, _, _, _, _, _, _, _, _, _, _, _, _, _, _, _, _], defers := _ } _
              refine wpAnyH_ready (rs := [11]) (by kernel_rfl) (by simp) ?_
              refine (AllReadyH.cons rfl (fun KK hK => ?_) AllReadyH.nil)
              have k0 := PZ.out.c0
              have k1 := PZ.out.c1
              have f0 := PZ.out.fr 0
              have f1 := PZ.out.fr 1
              go_simp
              have K9 : Hid (Box2 ((y4.setCell ⟨ph, 0, none⟩ (.int .i64 cd)).setCell ⟨ph, 1, none⟩ (.string t)) ph 29 (.int .i64 cd) (.string t)) := PZ.out.vr cd t
              have E9 : Hid (EO ((y4.setCell ⟨ph, 0, none⟩ (.int .i64 cd)).setCell ⟨ph, 1, none⟩ (.string t)) w.heap.size 51 3 (.slice bh N ch) N (fiF EL)) := by
                refine EW.out.keep (fun g e => ?_)
                have hg : g ≠ ph := fun e2 => EW.out.notBoxC PZ.out (by decide) (e2 ▸ e)
                rw [Below.heap_setCell _ ⟨ph, 1, none⟩ _ g hg, Below.heap_setCell _ ⟨ph, 0, none⟩ _ g hg]
              replace H : Below V.heap.size V ((y4.setCell ⟨ph, 0, none⟩ (.int .i64 cd)).setCell ⟨ph, 1, none⟩ (.string t)) := (H.setCell (p := ⟨ph, 0, none⟩) Lph.out _).setCell (p := ⟨ph, 1, none⟩) Lph.out _
              clear k0 k1 f0 f1 PZ EW
              generalize ((y4.setCell ⟨ph, 0, none⟩ (.int .i64 cd)).setCell ⟨ph, 1, none⟩ (.string t)) = y5 at *
              refine hK.out _ _ H (fun _ => ?_)
              clear hK KK
              change wpAnyH _ _ _ _ _ _ _ { tmps := #[_, _, _, _, _, _, _, _, _, _, _, _, _, _, _, _, _, _, _, _, _, _, _, _, _, _, _, _, _, _, _, _, _, _, _, _, _, _, _, _, _, _, _, _, _, _, _, _, _, _, _, _, _, _, _, _, _, _, _, _, _, _, _, _, _, _, _, _, _, _, _, _, _, _, _, _, _, _, _, _, _, _, _, _, _, _, _, _, _, _, _, _, _, _, _, _, _, _, _, _, _, _, _, _, _, _, _, _, _, _, _, _, _, _, _, _, _, _, _, _, _, _, _, _, _, _, _, _, _, _, _, _, _], defers := _ } _
              refine wpAnyH_take (i := 12) (v := .int .i64 dd) rfl (by kernel_rfl) (by kernel_rfl) (by kernel_rfl) (fun _ _ _ h => h) (Or.inl ⟨by rfl, ?_⟩) H ?_
              · intro w' hSw; clear hSw; go_simp
              change wpAnyH _ _ _ _ _ _ _ { tmps := #[_, _, _, _, _, _, _, _, _, _, _, _, _, _, _, _, _, _, _, _, _, _, _, _, _, _, _, _, _, _, _, _, _, _, _, _, _, _, _, _, _, _, _, _, _, _, _, _, _, _, _, _, _, _, _, _, _, _, _, _, _, _, _, _, _, _, _, _, _, _, _, _, _, _, _, _, _, _, _, _, _, _, _, _, _, _, _, _, _, _, _, _, _, _, _, _, _, _, _, _, _, _, _, _, _, _, _, _, _, _, _, _, _, _, _, _, _, _, _, _, _, _, _, _, _, _, _, _, _, _, _, _, _], defers := _ } _
              refine wpAnyH_done (by kernel_rfl) ?_ _
              refine NoPanic.normal ?_
              change Exit.then _ _ Exit.normal { tmps := #[_, _, _, _, _, _, _, _, _, _, _, _, _, _, _, _, _, _, _, _, _, _, _, _, _, _, _, _, _, _, _, _, _, _, _, _, _, _, _, _, _, _, _, _, _, _, _, _, _, _, _, _, _, _, _, _, _, _, _, _, _, _, _, _, _, _, _, _, _, _, _, _, _, _, _, _, _, _, _, _, _, _, _, _, _, _, _, _, _, _, _, _, _, _, _, _, _, _, _, _, _, _, _, _, _, _, _, _, _, _, _, _, _, _, _, _, _, _, _, _, _, _, _, _, _, _, _, _, _, _, _, _, _], defers := _ } _
              go_wp2_with fail
              go_meet
              exact ⟨ph, bh, ch, rfl, rfl, rfl, trivial, K9.out, E9.out, Rw.out.below (by omega) H, VW.out.below H, Rg.out.below H, AV.out.trans (H.mono AV.out.size)⟩
            · skip
              go_simp
              have hb : Below y2.heap.size y2 (y2.alloc (.cells #[.int .i64 0, .string ⟨#[]⟩] 29)) := (Below.refl _ _).alloc (Nat.le_refl _) _
              have PZ : Hid (Box2 (y2.alloc (.cells #[.int .i64 0, .string ⟨#[]⟩] 29)) y2.heap.size 29 (.int .i64 0) (.string ⟨#[]⟩)) := Box2.madeAt rfl _ _ _
              have Lph : Hid (V.heap.size ≤ y2.heap.size) := H.size
              replace XT : Hid (Els (y2.alloc (.cells #[.int .i64 0, .string ⟨#[]⟩] 29)) 3 (some ⟨gt, 0, none⟩) n (fiF FI)) := XT.out.below hb
              replace LT : Hid (LtS gt (y2.alloc (.cells #[.int .i64 0, .string ⟨#[]⟩] 29))) := LT.out.below hb
              replace H : Below V.heap.size V (y2.alloc (.cells #[.int .i64 0, .string ⟨#[]⟩] 29)) := H.trans (hb.mono H.size)
              clear hb
              refine hK.out _ _ H (fun _ => ?_)
              clear hK KK
              generalize (y2.alloc (.cells #[.int .i64 0, .string ⟨#[]⟩] 29)) = y3 at *
              generalize y2.heap.size = ph at *
              change wpAnyH _ _ _ _ _ _ _ { tmps := #[_, _, _, _, _, _, _, _, _, _, _, _, _, _, _, _, _, _, _, _, _, _, _, _, _, _, _, _, _, _, _, _, _, _, _, _, _, _, _, _, _, _, _, _, _, _, _, _, _, _, _, _, _, _, _, _, _, _, _, _, _, _, _, _, _, _, _, _, _, _, _, _, _, _, _, _, _, _, _, _, _, _, _, _, _, _, _, _, _, _, _, _, _, _, _, _, _, _, _, _, _, _, _, _, _, _, _, _, _, _, _, _, _, _, _, _, _, _, _, _, _, _, _, _, _, _, _, _, _, _, _, _, _], defers := _ } _
              refine wpAnyH_ready (rs := [4]) (by kernel_rfl) (by simp) ?_
              refine (AllReadyH.cons rfl (fun KK hK => ?_) AllReadyH.nil)
              go_simp
              refine (IY.out _ _ XT.out).mono ?_
              rintro e y4 ⟨⟨bh, ch, rfl, ho⟩, hb⟩
              replace XT : Hid (Els y4 3 (some ⟨gt, 0, none⟩) n (fiF FI)) := XT.out.below hb
              replace LT : Hid (LtS gt y4) := LT.out.below hb
              replace PZ : Hid (Box2 y4 ph 29 (.int .i64 0) (.string ⟨#[]⟩)) := PZ.out.below hb
              have BW : w.heap.size ≤ y3.heap.size := Nat.le_trans AV.out.size H.size
              replace H : Below V.heap.size V y4 := H.trans (hb.mono H.size)
              have EW : Hid (EO y4 w.heap.size 51 3 (.slice bh N ch) N (fiF EL)) := ho.mono BW
              clear hb BW ho
              refine hK.out _ _ H (fun _ => ?_)
              clear hK KK
              change wpAnyH _ _ _ _ _ _ _ { tmps := #[_, _, _, _, _, _, _, _, _, _, _, _, _, _, _, _, _, _, _, _, _, _, _, _, _, _, _, _, _, _, _, _, _, _, _, _, _, _, _, _, _, _, _, _, _, _, _, _, _, _, _, _, _, _, _, _, _, _, _, _, _, _, _, _, _, _, _, _, _, _, _, _, _, _, _, _, _, _, _, _, _, _, _, _, _, _, _, _, _, _, _, _, _, _, _, _, _, _, _, _, _, _, _, _, _, _, _, _, _, _, _, _, _, _, _, _, _, _, _, _, _, _, _, _, _, _, _, _, _, _, _, _, _], defers := _ } _
              refine wpAnyH_take (i := 5) (v := .tuple #[.slice bh N ch, .agg #[.int .i64 cd, .string t], .int .i64 dd]) rfl (by kernel_rfl) (by kernel_rfl) (by kernel_rfl) (fun _ _ _ h => h) (Or.inl ⟨by rfl, ?_⟩) H ?_
              · intro w' hSw; clear hSw; go_simp
              change wpAnyH _ _ _ _ _ _ _ { tmps := #[_, _, _, _, _, _, _, _, _, _, _, _, _, _, _, _, _, _, _, _, _, _, _, _, _, _, _, _, _, _, _, _, _, _, _, _, _, _, _, _, _, _, _, _, _, _, _, _, _, _, _, _, _, _, _, _, _, _, _, _, _, _, _, _, _, _, _, _, _, _, _, _, _, _, _, _, _, _, _, _, _, _, _, _, _, _, _, _, _, _, _, _, _, _, _, _, _, _, _, _, _, _, _, _, _, _, _, _, _, _, _, _, _, _, _, _, _, _, _, _, _, _, _, _, _, _, _, _, _, _, _, _, _], defers := _ } _
              refine wpAnyH_take (i := 6) (v := .slice bh N ch) rfl (by kernel_rfl) (by kernel_rfl) (by kernel_rfl) (fun _ _ _ h => h) (Or.inl ⟨by rfl, ?_⟩) H ?_
              · intro w' hSw; clear hSw; go_simp
              change wpAnyH _ _ _ _ _ _ _ { tmps := #[_, _, _, _, _, _, _, _, _, _, _, _, _, _, _, _, _, _, _, _, _, _, _, _, _, _, _, _, _, _, _, _, _, _, _, _, _, _, _, _, _, _, _, _, _, _, _, _, _, _, _, _, _, _, _, _, _, _, _, _, _, _, _, _, _, _, _, _, _, _, _, _, _, _, _, _, _, _, _, _, _, _, _, _, _, _, _, _, _, _, _, _, _, _, _, _, _, _, _, _, _, _, _, _, _, _, _, _, _, _, _, _, _, _, _, _, _, _, _, _, _, _, _, _, _, _, _, _, _, _, _, _, _], defers := _ } _
              refine wpAnyH_take (i := 7) (v := .agg #[.int .i64 cd, .string t]) rfl (by kernel_rfl) (by kernel_rfl) (by kernel_rfl) (fun _ _ _ h => h) (Or.inl ⟨by rfl, ?_⟩) H ?_
              · intro w' hSw; clear hSw; go_simp
              change wpAnyH _ _ _ _ _ _ _ { tmps := #[_, _, _, _, _, _, _, _, _, _, _, _, _, _, _, _, _, _, _, _, _, _, _, _, _, _, _, _, _, _, _, _, _, _, _, _, _, _, _, _, _, _, _, _, _, _, _, _, _, _, _, _, _, _, _, _, _, _, _, _, _, _, _, _, _, _, _, _, _, _, _, _, _, _, _, _, _, _, _, _, _, _, _, _, _, _, _, _, _, _, _, _, _, _, _, _, _, _, _, _, _, _, _, _, _, _, _, _, _, _, _, _, _, _, _, _, _, _, _, _, _, _, _, _, _, _, _, _, _, _, _, _, _], defers := _ } _
              refine wpAnyH_take (i := 8) (v := .int .i64 dd) rfl (by kernel_rfl) (by kernel_rfl) (by kernel_rfl) (fun _ _ _ h => h) (Or.inl ⟨by rfl, ?_⟩) H ?_
              · intro w' hSw; clear hSw; go_simp
              change wpAnyH _ _ _ _ _ _ _ { tmps := #[_, _, _, _, _, _, _, _, _, _, _, _, _, _, _, _, _, _, _, _, _, _, _, _, _, _, _, _, _, _, _, _, _, _, _, _, _, _, _, _, _, _, _, _, _, _, _, _, _, _, _, _, _, _, _, _, _, _, _, _, _, _, _, _, _, _, _, _, _, _, _, _, _, _, _, _, _, _, _, _, _, _, _, _, _, _, _, _, _, _, _, _, _, _, _, _, _, _, _, _, _, _, _, _, _, _, _, _, _, _, _, _, _, _, _, _, _, _, _, _, _, _, _, _, _, _, _, _, _, _, _, _, _], defers := _ } _
              refine wpAnyH_take (i := 10) (v := .slice bh N ch) rfl (by kernel_rfl) (by kernel_rfl) (by kernel_rfl) (fun _ _ _ h => h) (Or.inl ⟨by rfl, ?_⟩) H ?_
              · intro w' hSw; clear hSw; go_simp
              change wpAnyH _ _ _ _ _ _ _ { tmps := #[_, _, _, _, _, _, _, _, _, _, _, _, _, _, _, _, _, _, _, _, _, _, _, _, _, _, _, _, _, _, _, _, _, _, _, _, _, _, _, _, _, _, _, _, _, _, _, _, _, _, _, _, _, _, _, _, _, _, _, _, _, _, _, _, _, _, _, _, _, _, _, _, _, _, _, _, _, _, _, _, _, _, _, _, _, _, _, _, _, _, _, _, _, _, _, _, _, _, _, _, _, _, _, _, _, _, _, _, _, _, _, _, _, _, _, _, _, _, _, _, _, _, _, _, _, _, _, _, _, _, _, _, _], defers := _ } _
              refine wpAnyH_ready (rs := [11]) (by kernel_rfl) (by simp) ?_
              refine (AllReadyH.cons rfl (fun KK hK => ?_) AllReadyH.nil)
              have k0 := PZ.out.c0
              have k1 := PZ.out.c1
              have f0 := PZ.out.fr 0
              have f1 := PZ.out.fr 1
              go_simp
              have K9 : Hid (Box2 ((y4.setCell ⟨ph, 0, none⟩ (.int .i64 cd)).setCell ⟨ph, 1, none⟩ (.string t)) ph 29 (.int .i64 cd) (.string t)) := PZ.out.vr cd t
              have E9 : Hid (EO ((y4.setCell ⟨ph, 0, none⟩ (.int .i64 cd)).setCell ⟨ph, 1, none⟩ (.string t)) w.heap.size 51 3 (.slice bh N ch) N (fiF EL)) := by
                refine EW.out.keep (fun g e => ?_)
                have hg : g ≠ ph := fun e2 => EW.out.notBoxC PZ.out (by decide) (e2 ▸ e)
                rw [Below.heap_setCell _ ⟨ph, 1, none⟩ _ g hg, Below.heap_setCell _ ⟨ph, 0, none⟩ _ g hg]
              replace H : Below V.heap.size V ((y4.setCell ⟨ph, 0, none⟩ (.int .i64 cd)).setCell ⟨ph, 1, none⟩ (.string t)) := (H.setCell (p := ⟨ph, 0, none⟩) Lph.out _).setCell (p := ⟨ph, 1, none⟩) Lph.out _
              clear k0 k1 f0 f1 PZ EW
              generalize ((y4.setCell ⟨ph, 0, none⟩ (.int .i64 cd)).setCell ⟨ph, 1, none⟩ (.string t)) = y5 at *
              refine hK.out _ _ H (fun _ => ?_)
              clear hK KK
              change wpAnyH _ _ _ _ _ _ _ { tmps := #[_, _, _, _, _, _, _, _, _, _, _, _, _, _, _, _, _, _, _, _, _, _, _, _, _, _, _, _, _, _, _, _, _, _, _, _, _, _, _, _, _, _, _, _, _, _, _, _, _, _, _, _, _, _, _, _, _, _, _, _, _, _, _, _, _, _, _, _, _, _, _, _, _, _, _, _, _, _, _, _, _, _, _, _, _, _, _, _, _, _, _, _, _, _, _, _, _, _, _, _, _, _, _, _, _, _, _, _, _, _, _, _, _, _, _, _, _, _, _, _, _, _, _, _, _, _, _, _, _, _, _, _, _], defers := _ } _
              refine wpAnyH_take (i := 12) (v := .int .i64 dd) rfl (by kernel_rfl) (by kernel_rfl) (by kernel_rfl) (fun _ _ _ h => h) (Or.inl ⟨by rfl, ?_⟩) H ?_
              · intro w' hSw; clear hSw; go_simp
              change wpAnyH _ _ _ _ _ _ _ { tmps := #[_, _, _, _, _, _, _, _, _, _, _, _, _, _, _, _, _, _, _, _, _, _, _, _, _, _, _, _, _, _, _, _, _, _, _, _, _, _, _, _, _, _, _, _, _, _, _, _, _, _, _, _, _, _, _, _, _, _, _, _, _, _, _, _, _, _, _, _, _, _, _, _, _, _, _, _, _, _, _, _, _, _, _, _, _, _, _, _, _, _, _, _, _, _, _, _, _, _, _, _, _, _, _, _, _, _, _, _, _, _, _, _, _, _, _, _, _, _, _, _, _, _, _, _, _, _, _, _, _, _, _, _, _], defers := _ } _
              refine wpAnyH_done (by kernel_rfl) ?_ _
              refine NoPanic.normal ?_
              change Exit.then _ _ Exit.normal { tmps := #[_, _, _, _, _, _, _, _, _, _, _, _, _, _, _, _, _, _, _, _, _, _, _, _, _, _, _, _, _, _, _, _, _, _, _, _, _, _, _, _, _, _, _, _, _, _, _, _, _, _, _, _, _, _, _, _, _, _, _, _, _, _, _, _, _, _, _, _, _, _, _, _, _, _, _, _, _, _, _, _, _, _, _, _, _, _, _, _, _, _, _, _, _, _, _, _, _, _, _, _, _, _, _, _, _, _, _, _, _, _, _, _, _, _, _, _, _, _, _, _, _, _, _, _, _, _, _, _, _, _, _, _, _], defers := _ } _
              go_wp2_with fail
              go_meet
              exact ⟨ph, bh, ch, rfl, rfl, rfl, trivial, K9.out, E9.out, Rw.out.below (by omega) H, VW.out.below H, Rg.out.below H, AV.out.trans (H.mono AV.out.size)⟩
          · skip
            go_simp
            have hb : Below y1.heap.size y1 (y1.alloc (.cells #[.int .i64 0, .string ⟨#[]⟩] 29)) := (Below.refl _ _).alloc (Nat.le_refl _) _
            have PZ : Hid (Box2 (y1.alloc (.cells #[.int .i64 0, .string ⟨#[]⟩] 29)) y1.heap.size 29 (.int .i64 0) (.string ⟨#[]⟩)) := Box2.madeAt rfl _ _ _
            have Lph : Hid (V.heap.size ≤ y1.heap.size) := H.size
            replace XT : Hid (Els (y1.alloc (.cells #[.int .i64 0, .string ⟨#[]⟩] 29)) 3 (some ⟨gt, 0, none⟩) n (fiF FI)) := XT.out.below hb
            replace LT : Hid (LtS gt (y1.alloc (.cells #[.int .i64 0, .string ⟨#[]⟩] 29))) := LT.out.below hb
            replace H : Below V.heap.size V (y1.alloc (.cells #[.int .i64 0, .string ⟨#[]⟩] 29)) := H.trans (hb.mono H.size)
            clear hb
            refine hK.out _ _ H (fun _ => ?_)
            clear hK KK
            generalize (y1.alloc (.cells #[.int .i64 0, .string ⟨#[]⟩] 29)) = y2 at *
            generalize y1.heap.size = ph at *
            change wpAnyH _ _ _ _ _ _ _ { tmps := #[_, _, _, _, _, _, _, _, _, _, _, _, _, _, _, _, _, _, _, _, _, _, _, _, _, _, _, _, _, _, _, _, _, _, _, _, _, _, _, _, _, _, _, _, _, _, _, _, _, _, _, _, _, _, _, _, _, _, _, _, _, _, _, _, _, _, _, _, _, _, _, _, _, _, _, _, _, _, _, _, _, _, _, _, _, _, _, _, _, _, _, _, _, _, _, _, _, _, _, _, _, _, _, _, _, _, _, _, _, _, _, _, _, _, _, _, _, _, _, _, _, _, _, _, _, _, _, _, _, _, _, _, _], defers := _ } _
            refine wpAnyH_ready (rs := [3]) (by kernel_rfl) (by simp) ?_
            refine (AllReadyH.cons rfl (fun KK hK => ?_) AllReadyH.nil)
            go_simp
            refine (TC.out _).mono ?_
            rintro e y3 ⟨rfl, hb⟩
            replace XT : Hid (Els y3 3 (some ⟨gt, 0, none⟩) n (fiF FI)) := XT.out.below hb
            replace LT : Hid (LtS gt y3) := LT.out.below hb
            replace PZ : Hid (Box2 y3 ph 29 (.int .i64 0) (.string ⟨#[]⟩)) := PZ.out.below hb
            replace H : Below V.heap.size V y3 := H.trans (hb.mono H.size)
            clear hb
            refine hK.out _ _ H (fun _ => ?_)
            clear hK KK
            change wpAnyH _ _ _ _ _ _ _ { tmps := #[_, _, _, _, _, _, _, _, _, _, _, _, _, _, _, _, _, _, _, _, _, _, _, _, _, _, _, _, _, _, _, _, _, _, _, _, _, _, _, _, _, _, _, _, _, _, _, _, _, _, _, _, _, _, _, _, _, _, _, _, _, _, _, _, _, _, _, _, _, _, _, _, _, _, _, _, _, _, _, _, _, _, _, _, _, _, _, _, _, _, _, _, _, _, _, _, _, _, _, _, _, _, _, _, _, _, _, _, _, _, _, _, _, _, _, _, _, _, _, _, _, _, _, _, _, _, _, _, _, _, _, _, _], defers := _ } _
            refine wpAnyH_ready (rs := [4]) (by kernel_rfl) (by simp) ?_
            refine (AllReadyH.cons rfl (fun KK hK => ?_) AllReadyH.nil)
            go_simp
            refine (IY.out _ _ XT.out).mono ?_
            rintro e y4 ⟨⟨bh, ch, rfl, ho⟩, hb⟩
            replace XT : Hid (Els y4 3 (some ⟨gt, 0, none⟩) n (fiF FI)) := XT.out.below hb
            replace LT : Hid (LtS gt y4) := LT.out.below hb
            replace PZ : Hid (Box2 y4 ph 29 (.int .i64 0) (.string ⟨#[]⟩)) := PZ.out.below hb
            have BW : w.heap.size ≤ y3.heap.size := Nat.le_trans AV.out.size H.size
            replace H : Below V.heap.size V y4 := H.trans (hb.mono H.size)
            have EW : Hid (EO y4 w.heap.size 51 3 (.slice bh N ch) N (fiF EL)) := ho.mono BW
            clear hb BW ho
            refine hK.out _ _ H (fun _ => ?_)
            clear hK KK
            change wpAnyH _ _ _ _ _ _ _ { tmps := #[_, _, _, _, _, _, _, _, _, _, _, _, _, _, _, _, _, _, _, _, _, _, _, _, _, _, _, _, _, _, _, _, _, _, _, _, _, _, _, _, _, _, _, _, _, _, _, _, _, _, _, _, _, _, _, _, _, _, _, _, _, _, _, _, _, _, _, _, _, _, _, _, _, _, _, _, _, _, _, _, _, _, _, _, _, _, _, _, _, _, _, _, _, _, _, _, _, _, _, _, _, _, _, _, _, _, _, _, _, _, _, _, _, _, _, _, _, _, _, _, _, _, _, _, _, _, _, _, _, _, _, _, _], defers := _ } _
            refine wpAnyH_take (i := 5) (v := .tuple #[.slice bh N ch, .agg #[.int .i64 cd, .string t], .int .i64 dd]) rfl (by kernel_rfl) (by kernel_rfl) (by kernel_rfl) (fun _ _ _ h => h) (Or.inl ⟨by rfl, ?_⟩) H ?_
            · intro w' hSw; clear hSw; go_simp
            change wpAnyH _ _ _ _ _ _ _ { tmps := #[_, _, _, _, _, _, _, _, _, _, _, _, _, _, _, _, _, _, _, _, _, _, _, _, _, _, _, _, _, _, _, _, _, _, _, _, _, _, _, _, _, _, _, _, _, _, _, _, _, _, _, _, _, _, _, _, _, _, _, _, _, _, _, _, _, _, _, _, _, _, _, _, _, _, _, _, _, _, _, _, _, _, _, _, _, _, _, _, _, _, _, _, _, _, _, _, _, _, _, _, _, _, _, _, _, _, _, _, _, _, _, _, _, _, _, _, _, _, _, _, _, _, _, _, _, _, _, _, _, _, _, _, _], defers := _ } _
            refine wpAnyH_take (i := 6) (v := .slice bh N ch) rfl (by kernel_rfl) (by kernel_rfl) (by kernel_rfl) (fun _ _ _ h => h) (Or.inl ⟨by rfl, ?_⟩) H ?_
            · intro w' hSw; clear hSw; go_simp
            change wpAnyH _ _ _ _ _ _ _ { tmps := #[_, _, _, _, _, _, _, _, _, _, _, _, _, _, _, _, _, _, _, _, _, _, _, _, _, _, _, _, _, _, _, _, _, _, _, _, _, _, _, _, _, _, _, _, _, _, _, _, _, _, _, _, _, _, _, _, _, _, _, _, _, _, _, _, _, _, _, _, _, _, _, _, _, _, _, _, _, _, _, _, _, _, _, _, _, _, _, _, _, _, _, _, _, _, _, _, _, _, _, _, _, _, _, _, _, _, _, _, _, _, _, _, _, _, _, _, _, _, _, _, _, _, _, _, _, _, _, _, _, _, _, _, _], defers := _ } _
            refine wpAnyH_take (i := 7) (v := .agg #[.int .i64 cd, .string t]) rfl (by kernel_rfl) (by kernel_rfl) (by kernel_rfl) (fun _ _ _ h => h) (Or.inl ⟨by rfl, ?_⟩) H ?_
            · intro w' hSw; clear hSw; go_simp
            change wpAnyH _ _ _ _ _ _ _ { tmps := #[_, _, _, _, _, _, _, _, _, _, _, _, _, _, _, _, _, _, _, _, _, _, _, _, _, _, _, _, _, _, _, _, _, _, _, _, _, _, _, _, _, _, _, _, _, _, _, _, _, _, _, _, _, _, _, _, _, _, _, _, _, _, _, _, _, _, _, _, _, _, _, _, _, _, _, _, _, _, _, _, _, _, _, _, _, _, _, _, _, _, _, _, _, _, _, _, _, _, _, _, _, _, _, _, _, _, _, _, _, _, _, _, _, _, _, _, _, _, _, _, _, _, _, _, _, _, _, _, _, _, _, _, _], defers := _ } _
            refine wpAnyH_take (i := 8) (v := .int .i64 dd) rfl (by kernel_rfl) (by kernel_rfl) (by kernel_rfl) (fun _ _ _ h => h) (Or.inl ⟨by rfl, ?_⟩) H ?_
            · intro w' hSw; clear hSw; go_simp
            change wpAnyH _ _ _ _ _ _ _ { tmps := #[_, _, _, _, _, _, _, _, _, _, _, _, _, _, _, _, _, _, _, _, _, _, _, _, _, _, _, _, _, _, _, _, _, _, _, _, _, _, _, _, _, _, _, _, _, _, _, _, _, _, _, _, _, _, _, _, _, _, _, _, _, _, _, _, _, _, _, _, _, _, _, _, _, _, _, _, _, _, _, _, _, _, _, _, _, _, _, _, _, _, _, _, _, _, _, _, _, _, _, _, _, _, _, _, _, _, _, _, _, _, _, _, _, _, _, _, _, _, _, _, _, _, _, _, _, _, _, _, _, _, _, _, _], defers := _ } _
            refine wpAnyH_take (i := 10) (v := .slice bh N ch) rfl (by kernel_rfl) (by kernel_rfl) (by kernel_rfl) (fun _ _ _ h => h) (Or.inl ⟨by rfl, ?_⟩) H ?_
            · intro w' hSw; clear hSw; go_simp
            change wpAnyH _ _ _ _ _ _ _ { tmps := #[_, _, _, _, _, _, _, _, _, _, _, _, _, _, _, _, _, _, _, _, _, _, _, _, _, _, _, _, _, _, _, _, _, _, _, _, _, _, _, _, _, _, _, _, _, _, _, _, _, _, _, _, _, _, _, _, _, _, _, _, _, _, _, _, _, _, _, _, _, _, _, _, _, _, _, _, _, _, _, _, _, _, _, _, _, _, _, _, _, _, _, _, _, _, _, _, _, _, _, _, _, _, _, _, _, _, _, _, _, _, _, _, _, _, _, _, _, _, _, _, _, _, _, _, _, _, _, _, _, _, _, _, _], defers := _ } _
            refine wpAnyH_ready (rs := [11]) (by kernel_rfl) (by simp) ?_
            refine (AllReadyH.cons rfl (fun KK hK => ?_) AllReadyH.nil)
            have k0 := PZ.out.c0
            have k1 := PZ.out.c1
            have f0 := PZ.out.fr 0
            have f1 := PZ.out.fr 1
            go_simp
            have K9 : Hid (Box2 ((y4.setCell ⟨ph, 0, none⟩ (.int .i64 cd)).setCell ⟨ph, 1, none⟩ (.string t)) ph 29 (.int .i64 cd) (.string t)) := PZ.out.vr cd t
            have E9 : Hid (EO ((y4.setCell ⟨ph, 0, none⟩ (.int .i64 cd)).setCell ⟨ph, 1, none⟩ (.string t)) w.heap.size 51 3 (.slice bh N ch) N (fiF EL)) := by
              refine EW.out.keep (fun g e => ?_)
              have hg : g ≠ ph := fun e2 => EW.out.notBoxC PZ.out (by decide) (e2 ▸ e)
              rw [Below.heap_setCell _ ⟨ph, 1, none⟩ _ g hg, Below.heap_setCell _ ⟨ph, 0, none⟩ _ g hg]
            replace H : Below V.heap.size V ((y4.setCell ⟨ph, 0, none⟩ (.int .i64 cd)).setCell ⟨ph, 1, none⟩ (.string t)) := (H.setCell (p := ⟨ph, 0, none⟩) Lph.out _).setCell (p := ⟨ph, 1, none⟩) Lph.out _
            clear k0 k1 f0 f1 PZ EW
            generalize ((y4.setCell ⟨ph, 0, none⟩ (.int .i64 cd)).setCell ⟨ph, 1, none⟩ (.string t)) = y5 at *
            refine hK.out _ _ H (fun _ => ?_)
            clear hK KK
            change wpAnyH _ _ _ _ _ _ _ { tmps := #[_, _, _, _, _, _, _, _, _, _, _, _, _, _, _, _, _, _, _, _, _, _, _, _, _, _, _, _, _, _, _, _, _, _, _, _, _, _, _, _, _, _, _, _, _, _, _, _, _, _, _, _, _, _, _, _, _, _, _, _, _, _, _, _, _, _, _, _, _, _, _, _, _, _, _, _, _, _, _, _, _, _, _, _, _, _, _, _, _, _, _, _, _, _, _, _, _, _, _, _, _, _, _, _, _, _, _, _, _, _, _, _, _, _, _, _, _, _, _, _, _, _, _, _, _, _, _, _, _, _, _, _, _], defers := _ } _
            refine wpAnyH_take (i := 12) (v := .int .i64 dd) rfl (by kernel_rfl) (by kernel_rfl) (by kernel_rfl) (fun _ _ _ h => h) (Or.inl ⟨by rfl, ?_⟩) H ?_
            · intro w' hSw; clear hSw; go_simp
            change wpAnyH _ _ _ _ _ _ _ { tmps := #[_, _, _, _, _, _, _, _, _, _, _, _, _, _, _, _, _, _, _, _, _, _, _, _, _, _, _, _, _, _, _, _, _, _, _, _, _, _, _, _, _, _, _, _, _, _, _, _, _, _, _, _, _, _, _, _, _, _, _, _, _, _, _, _, _, _, _, _, _, _, _, _, _, _, _, _, _, _, _, _, _, _, _, _, _, _, _, _, _, _, _, _, _, _, _, _, _, _, _, _, _, _, _, _, _, _, _, _, _, _, _, _, _, _, _, _, _, _, _, _, _, _, _, _, _, _, _, _, _, _, _, _, _], defers := _ } _
            refine wpAnyH_done (by kernel_rfl) ?_ _
            refine NoPanic.normal ?_
            change Exit.then _ _ Exit.normal { tmps := #[_, _, _, _, _, _, _, _, _, _, _, _, _, _, _, _, _, _, _, _, _, _, _, _, _, _, _, _, _, _, _, _, _, _, _, _, _, _, _, _, _, _, _, _, _, _, _, _, _, _, _, _, _, _, _, _, _, _, _, _, _, _, _, _, _, _, _, _, _, _, _, _, _, _, _, _, _, _, _, _, _, _, _, _, _, _, _, _, _, _, _, _, _, _, _, _, _, _, _, _, _, _, _, _, _, _, _, _, _, _, _, _, _, _, _, _, _, _, _, _, _, _, _, _, _, _, _, _, _, _, _, _, _], defers := _ } _
            go_wp2_with fail
            go_meet
            exact ⟨ph, bh, ch, rfl, rfl, rfl, trivial, K9.out, E9.out, Rw.out.below (by omega) H, VW.out.below H, Rg.out.below H, AV.out.trans (H.mono AV.out.size)⟩
        · skip
          go_simp
          have hb : Below y0.heap.size y0 (y0.alloc (.cells #[.int .i64 0, .string ⟨#[]⟩] 29)) := (Below.refl _ _).alloc (Nat.le_refl _) _
          have PZ : Hid (Box2 (y0.alloc (.cells #[.int .i64 0, .string ⟨#[]⟩] 29)) y0.heap.size 29 (.int .i64 0) (.string ⟨#[]⟩)) := Box2.madeAt rfl _ _ _
          have Lph : Hid (V.heap.size ≤ y0.heap.size) := H.size
          replace H : Below V.heap.size V (y0.alloc (.cells #[.int .i64 0, .string ⟨#[]⟩] 29)) := H.trans (hb.mono H.size)
          clear hb
          refine hK.out _ _ H (fun _ => ?_)
          clear hK KK
          generalize (y0.alloc (.cells #[.int .i64 0, .string ⟨#[]⟩] 29)) = y1 at *
          generalize y0.heap.size = ph at *
          change wpAnyH _ _ _ _ _ _ _ { tmps := #[_, _, _, _, _, _, _, _, _, _, _, _, _, _, _, _, _, _, _, _, _, _, _, _, _, _, _, _, _, _, _, _, _, _, _, _, _, _, _, _, _, _, _, _, _, _, _, _, _, _, _, _, _, _, _, _, _, _, _, _, _, _, _, _, _, _, _, _, _, _, _, _, _, _, _, _, _, _, _, _, _, _, _, _, _, _, _, _, _, _, _, _, _, _, _, _, _, _, _, _, _, _, _, _, _, _, _, _, _, _, _, _, _, _, _, _, _, _, _, _, _, _, _, _, _, _, _, _, _, _, _, _, _], defers := _ } _
          refine wpAnyH_ready (rs := [1]) (by kernel_rfl) (by simp) ?_
          refine (AllReadyH.cons rfl (fun KK hK => ?_) AllReadyH.nil)
          go_simp
          refine (TO.out _ (HV.out.below H)).mono ?_
          rintro e y2 ⟨⟨gt, rfl, hrt, hgt, hlt⟩, hb⟩
          replace PZ : Hid (Box2 y2 ph 29 (.int .i64 0) (.string ⟨#[]⟩)) := PZ.out.below hb
          replace H : Below V.heap.size V y2 := H.trans (hb.mono H.size)
          have XT : Hid (Els y2 3 (some ⟨gt, 0, none⟩) n (fiF FI)) := hrt.els
          have LT : Hid (LtS gt y2) := hlt
          clear hb hrt hgt hlt
          refine hK.out _ _ H (fun _ => ?_)
          clear hK KK
          change wpAnyH _ _ _ _ _ _ _ { tmps := #[_, _, _, _, _, _, _, _, _, _, _, _, _, _, _, _, _, _, _, _, _, _, _, _, _, _, _, _, _, _, _, _, _, _, _, _, _, _, _, _, _, _, _, _, _, _, _, _, _, _, _, _, _, _, _, _, _, _, _, _, _, _, _, _, _, _, _, _, _, _, _, _, _, _, _, _, _, _, _, _, _, _, _, _, _, _, _, _, _, _, _, _, _, _, _, _, _, _, _, _, _, _, _, _, _, _, _, _, _, _, _, _, _, _, _, _, _, _, _, _, _, _, _, _, _, _, _, _, _, _, _, _, _], defers := _ } _
          refine wpAnyH_ready (rs := [3]) (by kernel_rfl) (by simp) ?_
          refine (AllReadyH.cons rfl (fun KK hK => ?_) AllReadyH.nil)
          go_simp
          refine (TC.out _).mono ?_
          rintro e y3 ⟨rfl, hb⟩
          replace PZ : Hid (Box2 y3 ph 29 (.int .i64 0) (.string ⟨#[]⟩)) := PZ.out.below hb
          replace XT : Hid (Els y3 3 (some ⟨gt, 0, none⟩) n (fiF FI)) := XT.out.below hb
          replace LT : Hid (LtS gt y3) := LT.out.below hb
          replace H : Below V.heap.size V y3 := H.trans (hb.mono H.size)
          clear hb
          refine hK.out _ _ H (fun _ => ?_)
          clear hK KK
          change wpAnyH _ _ _ _ _ _ _ { tmps := #[_, _, _, _, _, _, _, _, _, _, _, _, _, _, _, _, _, _, _, _, _, _, _, _, _, _, _, _, _, _, _, _, _, _, _, _, _, _, _, _, _, _, _, _, _, _, _, _, _, _, _, _, _, _, _, _, _, _, _, _, _, _, _, _, _, _, _, _, _, _, _, _, _, _, _, _, _, _, _, _, _, _, _, _, _, _, _, _, _, _, _, _, _, _, _, _, _, _, _, _, _, _, _, _, _, _, _, _, _, _, _, _, _, _, _, _, _, _, _, _, _, _, _, _, _, _, _, _, _, _, _, _, _], defers := _ } _
          refine wpAnyH_ready (rs := [4]) (by kernel_rfl) (by simp) ?_
          refine (AllReadyH.cons rfl (fun KK hK => ?_) AllReadyH.nil)
          go_simp
          refine (IY.out _ _ XT.out).mono ?_
          rintro e y4 ⟨⟨bh, ch, rfl, ho⟩, hb⟩
          replace PZ : Hid (Box2 y4 ph 29 (.int .i64 0) (.string ⟨#[]⟩)) := PZ.out.below hb
          replace XT : Hid (Els y4 3 (some ⟨gt, 0, none⟩) n (fiF FI)) := XT.out.below hb
          replace LT : Hid (LtS gt y4) := LT.out.below hb
          have BW : w.heap.size ≤ y3.heap.size := Nat.le_trans AV.out.size H.size
          replace H : Below V.heap.size V y4 := H.trans (hb.mono H.size)
          have EW : Hid (EO y4 w.heap.size 51 3 (.slice bh N ch) N (fiF EL)) := ho.mono BW
          clear hb BW ho
          refine hK.out _ _ H (fun _ => ?_)
          clear hK KK
          change wpAnyH _ _ _ _ _ _ _ { tmps := #[_, _, _, _, _, _, _, _, _, _, _, _, _, _, _, _, _, _, _, _, _, _, _, _, _, _, _, _, _, _, _, _, _, _, _, _, _, _, _, _, _, _, _, _, _, _, _, _, _, _, _, _, _, _, _, _, _, _, _, _, _, _, _, _, _, _, _, _, _, _, _, _, _, _, _, _, _, _, _, _, _, _, _, _, _, _, _, _, _, _, _, _, _, _, _, _, _, _, _, _, _, _, _, _, _, _, _, _, _, _, _, _, _, _, _, _, _, _, _, _, _, _, _, _, _, _, _, _, _, _, _, _, _], defers := _ } _
          refine wpAnyH_take (i := 5) (v := .tuple #[.slice bh N ch, .agg #[.int .i64 cd, .string t], .int .i64 dd]) rfl (by kernel_rfl) (by kernel_rfl) (by kernel_rfl) (fun _ _ _ h => h) (Or.inl ⟨by rfl, ?_⟩) H ?_
          · intro w' hSw; clear hSw; go_simp
          change wpAnyH _ _ _ _ _ _ _ { tmps := #[_, _, _, _, _, _, _, _, _, _, _, _, _, _, _, _, _, _, _, _, _, _, _, _, _, _, _, _, _, _, _, _, _, _, _, _, _, _, _, _, _, _, _, _, _, _, _, _, _, _, _, _, _, _, _, _, _, _, _, _, _, _, _, _, _, _, _, _, _, _, _, _, _, _, _, _, _, _, _, _, _, _, _, _, _, _, _, _, _, _, _, _, _, _, _, _, _, _, _, _, _, _, _, _, _, _, _, _, _, _, _, _, _, _, _, _, _, _, _, _, _, _, _, _, _, _, _, _, _, _, _, _, _], defers := _ } _
          refine wpAnyH_take (i := 6) (v := .slice bh N ch) rfl (by kernel_rfl) (by kernel_rfl) (by kernel_rfl) (fun _ _ _ h => h) (Or.inl ⟨by rfl, ?_⟩) H ?_
          · intro w' hSw; clear hSw; go_simp
          change wpAnyH _ _ _ _ _ _ _ { tmps := #[_, _, _, _, _, _, _, _, _, _, _, _, _, _, _, _, _, _, _, _, _, _, _, _, _, _, _, _, _, _, _, _, _, _, _, _, _, _, _, _, _, _, _, _, _, _, _, _, _, _, _, _, _, _, _, _, _, _, _, _, _, _, _, _, _, _, _, _, _, _, _, _, _, _, _, _, _, _, _, _, _, _, _, _, _, _, _, _, _, _, _, _, _, _, _, _, _, _, _, _, _, _, _, _, _, _, _, _, _, _, _, _, _, _, _, _, _, _, _, _, _, _, _, _, _, _, _, _, _, _, _, _, _], defers := _ } _
          refine wpAnyH_take (i := 7) (v := .agg #[.int .i64 cd, .string t]) rfl (by kernel_rfl) (by kernel_rfl) (by kernel_rfl) (fun _ _ _ h => h) (Or.inl ⟨by rfl, ?_⟩) H ?_
          · intro w' hSw; clear hSw; go_simp
          change wpAnyH _ _ _ _ _ _ _ { tmps := #[_, _, _, _, _, _, _, _, _, _, _, _, _, _, _, _, _, _, _, _, _, _, _, _, _, _, _, _, _, _, _, _, _, _, _, _, _, _, _, _, _, _, _, _, _, _, _, _, _, _, _, _, _, _, _, _, _, _, _, _, _, _, _, _, _, _, _, _, _, _, _, _, _, _, _, _, _, _, _, _, _, _, _, _, _, _, _, _, _, _, _, _, _, _, _, _, _, _, _, _, _, _, _, _, _, _, _, _, _, _, _, _, _, _, _, _, _, _, _, _, _, _, _, _, _, _, _, _, _, _, _, _, _], defers := _ } _
          refine wpAnyH_take (i := 8) (v := .int .i64 dd) rfl (by kernel_rfl) (by kernel_rfl) (by kernel_rfl) (fun _ _ _ h => h) (Or.inl ⟨by rfl, ?_⟩) H ?_
          · intro w' hSw; clear hSw; go_simp
          change wpAnyH _ _ _ _ _ _ _ { tmps := #[_, _, _, _, _, _, _, _, _, _, _, _, _, _, _, _, _, _, _, _, _, _, _, _, _, _, _, _, _, _, _, _, _, _, _, _, _, _, _, _, _, _, _, _, _, _, _, _, _, _, _, _, _, _, _, _, _, _, _, _, _, _, _, _, _, _, _, _, _, _, _, _, _, _, _, _, _, _, _, _, _, _, _, _, _, _, _, _, _, _, _, _, _, _, _, _, _, _, _, _, _, _, _, _, _, _, _, _, _, _, _, _, _, _, _, _, _, _, _, _, _, _, _, _, _, _, _, _, _, _, _, _, _], defers := _ } _
          refine wpAnyH_take (i := 10) (v := .slice bh N ch) rfl (by kernel_rfl) (by kernel_rfl) (by kernel_rfl) (fun _ _ _ h => h) (Or.inl ⟨by rfl, ?_⟩) H ?_
          · intro w' hSw; clear hSw; go_simp
          change wpAnyH _ _ _ _ _ _ _ { tmps := #[_, _, _, _, _, _, _, _, _, _, _, _, _, _, _, _, _, _, _, _, _, _, _, _, _, _, _, _, _, _, _, _, _, _, _, _, _, _, _, _, _, _, _, _, _, _, _, _, _, _, _, _, _, _, _, _, _, _, _, _, _, _, _, _, _, _, _, _, _, _, _, _, _, _, _, _, _, _, _, _, _, _, _, _, _, _, _, _, _, _, _, _, _, _, _, _, _, _, _, _, _, _, _, _, _, _, _, _, _, _, _, _, _, _, _, _, _, _, _, _, _, _, _, _, _, _, _, _, _, _, _, _, _], defers := _ } _
          refine wpAnyH_ready (rs := [11]) (by kernel_rfl) (by simp) ?_
          refine (AllReadyH.cons rfl (fun KK hK => ?_) AllReadyH.nil)
          have k0 := PZ.out.c0
          have k1 := PZ.out.c1
          have f0 := PZ.out.fr 0
          have f1 := PZ.out.fr 1
          go_simp
          have K9 : Hid (Box2 ((y4.setCell ⟨ph, 0, none⟩ (.int .i64 cd)).setCell ⟨ph, 1, none⟩ (.string t)) ph 29 (.int .i64 cd) (.string t)) := PZ.out.vr cd t
          have E9 : Hid (EO ((y4.setCell ⟨ph, 0, none⟩ (.int .i64 cd)).setCell ⟨ph, 1, none⟩ (.string t)) w.heap.size 51 3 (.slice bh N ch) N (fiF EL)) := by
            refine EW.out.keep (fun g e => ?_)
            have hg : g ≠ ph := fun e2 => EW.out.notBoxC PZ.out (by decide) (e2 ▸ e)
            rw [Below.heap_setCell _ ⟨ph, 1, none⟩ _ g hg, Below.heap_setCell _ ⟨ph, 0, none⟩ _ g hg]
          replace H : Below V.heap.size V ((y4.setCell ⟨ph, 0, none⟩ (.int .i64 cd)).setCell ⟨ph, 1, none⟩ (.string t)) := (H.setCell (p := ⟨ph, 0, none⟩) Lph.out _).setCell (p := ⟨ph, 1, none⟩) Lph.out _
          clear k0 k1 f0 f1 PZ EW
          generalize ((y4.setCell ⟨ph, 0, none⟩ (.int .i64 cd)).setCell ⟨ph, 1, none⟩ (.string t)) = y5 at *
          refine hK.out _ _ H (fun _ => ?_)
          clear hK KK
          change wpAnyH _ _ _ _ _ _ _ { tmps := #[_, _, _, _, _, _, _, _, _, _, _, _, _, _, _, _, _, _, _, _, _, _, _, _, _, _, _, _, _, _, _, _, _, _, _, _, _, _, _, _, _, _, _, _, _, _, _, _, _, _, _, _, _, _, _, _, _, _, _, _, _, _, _, _, _, _, _, _, _, _, _, _, _, _, _, _, _, _, _, _, _, _, _, _, _, _, _, _, _, _, _, _, _, _, _, _, _, _, _, _, _, _, _, _, _, _, _, _, _, _, _, _, _, _, _, _, _, _, _, _, _, _, _, _, _, _, _, _, _, _, _, _, _], defers := _ } _
          refine wpAnyH_take (i := 12) (v := .int .i64 dd) rfl (by kernel_rfl) (by kernel_rfl) (by kernel_rfl) (fun _ _ _ h => h) (Or.inl ⟨by rfl, ?_⟩) H ?_
          · intro w' hSw; clear hSw; go_simp
          change wpAnyH _ _ _ _ _ _ _ { tmps := #[_, _, _, _, _, _, _, _, _, _, _, _, _, _, _, _, _, _, _, _, _, _, _, _, _, _, _, _, _, _, _, _, _, _, _, _, _, _, _, _, _, _, _, _, _, _, _, _, _, _, _, _, _, _, _, _, _, _, _, _, _, _, _, _, _, _, _, _, _, _, _, _, _, _, _, _, _, _, _, _, _, _, _, _, _, _, _, _, _, _, _, _, _, _, _, _, _, _, _, _, _, _, _, _, _, _, _, _, _, _, _, _, _, _, _, _, _, _, _, _, _, _, _, _, _, _, _, _, _, _, _, _, _], defers := _ } _
          refine wpAnyH_done (by kernel_rfl) ?_ _
          refine NoPanic.normal ?_
          change Exit.then _ _ Exit.normal { tmps := #[_, _, _, _, _, _, _, _, _, _, _, _, _, _, _, _, _, _, _, _, _, _, _, _, _, _, _, _, _, _, _, _, _, _, _, _, _, _, _, _, _, _, _, _, _, _, _, _, _, _, _, _, _, _, _, _, _, _, _, _, _, _, _, _, _, _, _, _, _, _, _, _, _, _, _, _, _, _, _, _, _, _, _, _, _, _, _, _, _, _, _, _, _, _, _, _, _, _, _, _, _, _, _, _, _, _, _, _, _, _, _, _, _, _, _, _, _, _, _, _, _, _, _, _, _, _, _, _, _, _, _, _, _], defers := _ } _
          go_wp2_with fail
          go_meet
          exact ⟨ph, bh, ch, rfl, rfl, rfl, trivial, K9.out, E9.out, Rw.out.below (by omega) H, VW.out.below H, Rg.out.below H, AV.out.trans (H.mono AV.out.size)⟩
      case rest =>
      obtain ⟨ph, bh, ch, rfl, rfl, rfl, hM, hx9, ho9, fRw, fVW, fRg, hb⟩ := hcut
      replace A1 : Hid (Below w.heap.size w wc) := hb
      replace Rw : Hid (RowE wc 3 b pw N (fiF EL)) := fRw
      replace VW : Hid (Box2 wc pb 29 (.int .i64 cd) (.string t)) := fVW
      replace Rg : Hid (Els wc 3 bg N (fiF (fiM 1))) := fRg
      generalize wc = wc2 at *
      have Rh : Hid (Els wc2 3 bh N (fiF EL)) := ho9.els
      have VH : Hid (Box2 wc2 ph 29 (.int .i64 cd) (.string t)) := hx9
      clear ho9 hx9 hM hb IY TO TC HE
      go_wp2_with fail
      refine (ES.out _ _ _ _ _ Rh.out Rw.out.els).mono ?_
      rintro e v16 ⟨rfl, hb⟩
      replace A1 : Hid (Below w.heap.size w v16) := A1.out.trans (hb.mono A1.out.size)
      replace Rw : Hid (RowE v16 3 b pw N (fiF EL)) := Rw.out.below (by omega) hb
      replace VW : Hid (Box2 v16 pb 29 (.int .i64 cd) (.string t)) := VW.out.below hb
      replace Rg : Hid (Els v16 3 bg N (fiF (fiM 1))) := Rg.out.below hb
      replace Rh : Hid (Els v16 3 bh N (fiF EL)) := Rh.out.below hb
      replace VH : Hid (Box2 v16 ph 29 (.int .i64 cd) (.string t)) := VH.out.below hb
      clear hb ES
      have s00 := VH.out.c0
      have s01 := VH.out.c1
      have s10 := VW.out.c0
      have s11 := VW.out.c1
      go_wp2_with fail
      refine (EV.out _ _ _).mono ?_
      rintro e v17 ⟨rfl, hb⟩
      replace A1 : Hid (Below w.heap.size w v17) := A1.out.trans (hb.mono A1.out.size)
      replace Rw : Hid (RowE v17 3 b pw N (fiF EL)) := Rw.out.below (by omega) hb
      replace VW : Hid (Box2 v17 pb 29 (.int .i64 cd) (.string t)) := VW.out.below hb
      replace Rg : Hid (Els v17 3 bg N (fiF (fiM 1))) := Rg.out.below hb
      replace Rh : Hid (Els v17 3 bh N (fiF EL)) := Rh.out.below hb
      replace VH : Hid (Box2 v17 ph 29 (.int .i64 cd) (.string t)) := VH.out.below hb
      clear hb EV
      clear s00 s01 s10 s11
      clear Rh Rw VW VH
      go_wp2_with fail
      refine (HD.out _ _ _ Rg.out).mono ?_
      rintro e v18 ⟨rfl, hb⟩
      replace A1 : Hid (Below w.heap.size w v18) := A1.out.trans (hb.mono A1.out.size)
      replace Rg : Hid (Els v18 3 bg N (fiF (fiM 1))) := Rg.out.below hb
      clear hb HD
      clear Rg rr
      go_wp2
      go_ret
      exact ⟨rfl, A1.out⟩
end Go.Proofs.YtgcdoabcopihlaaGreat

/-
  A call on files among the arguments, opened.
-/
namespace Go.Proofs.YtgcdoabcopihlaaGreat
open Go.ChangeShapes Go.WideShapes Go.ChangeAt Go.RowKit
set_option linter.unusedVariables false
set_option maxRecDepth 100000 in
theorem openFcl {H : Type} {enc : TypeId × Value → H} {W : World} {base : Nat} {v : Value} {d : DataW H} {ps : List MemPlace} (hok : Value.okWide Tryz.prog W .any base 36 v) (h : DataW.Trod enc Tryz.prog W 0 (fun _ => true) true 36 v d ps) :
    ∃ (x : Fcl), v = .agg #[.int .i64 x.k, .int .i64 x.a, .int .i64 x.n, .string x.p, .string x.o, .string x.d] ∧ x.p.size ≤ maxLen ∧ x.o.size ≤ maxLen ∧ x.d.size ≤ maxLen := by
  obtain ⟨cs, rfl, hsz⟩ := okWide_struct Tryz.underlying36 hok
  obtain ⟨fuel, hf⟩ := h
  obtain ⟨xs, n, _, _, _, hxl, hfs⟩ := DataW.trod_struct Tryz.underlying36 hf
  have hc6 : Tryz.prog.cellsOf 36 = 6 := by kernel_rfl
  have cS : Tryz.prog.cellsOf 9 = 1 := by kernel_rfl
  have cI : Tryz.prog.cellsOf 3 = 1 := by kernel_rfl
  rw [hc6] at hsz
  obtain ⟨l⟩ := cs
  match xs, hxl, l, hsz with
  | [y0, y1, y2, y3, y4, y5], _, [c0, c1, c2, c3, c4, c5], _ =>
    have g0 := hfs 0 _ rfl
    have g1 := hfs 1 _ rfl
    have g2 := hfs 2 _ rfl
    have g3 := hfs 3 _ rfl
    have g4 := hfs 4 _ rfl
    have g5 := hfs 5 _ rfl
    simp [Value.cells, cI] at g0 g1 g2
    simp [Value.cells, cS] at g3 g4 g5
    obtain ⟨x0, e0, _⟩ := DataW.trod_int Tryz.underlying3 g0
    obtain ⟨x1, e1, _⟩ := DataW.trod_int Tryz.underlying3 g1
    obtain ⟨x2, e2, _⟩ := DataW.trod_int Tryz.underlying3 g2
    obtain ⟨s3, e3, _, z3⟩ := DataW.trod_string Tryz.underlying9 g3
    obtain ⟨s4, e4, _, z4⟩ := DataW.trod_string Tryz.underlying9 g4
    obtain ⟨s5, e5, _, z5⟩ := DataW.trod_string Tryz.underlying9 g5
    obtain rfl := (List.cons.inj e0).1
    obtain rfl := (List.cons.inj e1).1
    obtain rfl := (List.cons.inj e2).1
    obtain rfl := (List.cons.inj e3).1
    obtain rfl := (List.cons.inj e4).1
    obtain rfl := (List.cons.inj e5).1
    exact ⟨⟨x0, x1, x2, s3, s4, s5⟩, rfl, z3, z4, z5⟩
end Go.Proofs.YtgcdoabcopihlaaGreat
