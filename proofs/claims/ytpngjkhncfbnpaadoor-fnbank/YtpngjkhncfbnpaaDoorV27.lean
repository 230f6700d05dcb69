/-
  Texts of the proof, joined: BankRd.
-/
import Derived.Test.YtpngjkhncfbnpaaDoorV23
import Derived.Test.YtpngjkhncfbnpaaDoorV24
import Derived.Test.YtpngjkhncfbnpaaDoorV25
import Derived.Test.YtpngjkhncfbnpaaDoorV26
namespace Go.Proofs.YtpngjkhncfbnpaaDoor
open Go.ChangeShapes Go.WideShapes Go.ChangeAt Go.RowKit
set_option linter.unusedVariables false
def Bk.kR (b : Bk) (x : Int) : Nat := posN (fun i => (b.R i).v) x b.nr
def Bk.hasR (b : Bk) (x : Int) : Prop := b.kR x < b.nr ∧ (b.R (b.kR x)).v = x
theorem Bk.Ok.risesR {b : Bk} (h : b.Ok) : Rises (fun i => (b.R i).v) b.nr := rises_of (fun i hi hp => (h.1.2 i hi).2 hp)
theorem Bk.Ok.risesS {b : Bk} (h : b.Ok) : Rises (fun i => (b.S i).id) b.ns := rises_of (fun i hi hp => (h.2.2 i hi).2 hp)
theorem Bk.Ok.posR {b : Bk} (h : b.Ok) (x : Int) : Pos (fun i => (b.R i).v) b.nr x (b.kR x) := pos_of h.risesR x
def RdIs (b : Bk) (x : Int) (y : Rg) (cd : Int) : Prop := (¬ b.Ok ∧ y = rgZ ∧ cd = 1) ∨ (b.Ok ∧ ¬ b.hasR x ∧ y = rgZ ∧ cd = 5) ∨ (b.Ok ∧ b.hasR x ∧ y = b.R (b.kR x) ∧ cd = 0)
set_option maxRecDepth 100000 in
set_option maxHeartbeats 2000000 in
theorem implRead_is (b : Bk) (x : Int) (y : Rg) (cd : Int) (hy : RdIs b x y cd) (a0 a1 : Option Addr) (c0 c1 : Nat) (w : World) (h : BankV w b a0 a1) (hT : TabW w) :
    Calls Tryd.prog 24 #[.agg #[.slice a0 b.nr c0, .slice a1 b.ns c1], .int .i64 x] w fun e w' => e = .returned (.tuple #[.agg #[.int .i64 y.v, .int .i64 y.c, .string y.r], .int .i64 cd]) ∧ Below w.heap.size w w' := by
  have BO : Hid (∀ w : World, BankV w b a0 a1 → TabW w → Calls Tryd.prog 23 #[.agg #[.slice a0 b.nr c0, .slice a1 b.ns c1]] w fun e w' => e = .returned (.bool (okB b.Ok)) ∧ Below w.heap.size w w') := fun w h hT => implBankOK_any b a0 a1 c0 c1 w h hT
  have FI : Hid (∀ (u : Rg) (w : World), b.Ok → Els w 3 a0 b.nr (rgF b.R) → ((b.kR x < b.nr ∧ (b.R (b.kR x)).v = x ∧ u = b.R (b.kR x)) ∨ (¬ (b.kR x < b.nr ∧ (b.R (b.kR x)).v = x) ∧ u = rgZ)) → Calls Tryd.prog 57 #[.slice a0 b.nr c0, .int .i64 x, .func (.func 58) #[] #[]] w fun e w' => e = .returned (.agg #[.int .i64 u.v, .int .i64 u.c, .string u.r]) ∧ Below w.heap.size w w') := fun u w hk h hu => findRegister_any a0 b.nr c0 b.R x (b.kR x) (hk.posR x) (by have := hk.1.1; omega) w h u hu
  have HV : Hid (BankV w b a0 a1) := h
  have TB : Hid (TabW w) := hT
  have HY : Hid (RdIs b x y cd) := hy
  have A1 : Hid (Below w.heap.size w ((w.alloc (.cells #[.slice a0 b.nr c0, .slice a1 b.ns c1] 46)).alloc (.cells #[.int .i64 0, .int .i64 0, .string ⟨#[]⟩] 54))) := ((Below.refl _ _).alloc (Nat.le_refl _) _).alloc (by simp) _
  have X : Hid (Box2 ((w.alloc (.cells #[.slice a0 b.nr c0, .slice a1 b.ns c1] 46)).alloc (.cells #[.int .i64 0, .int .i64 0, .string ⟨#[]⟩] 54)) w.heap.size 46 (.slice a0 b.nr c0) (.slice a1 b.ns c1)) := (Box2.made _ _ _ _).alloc _
  have Y : Hid (Box3 ((w.alloc (.cells #[.slice a0 b.nr c0, .slice a1 b.ns c1] 46)).alloc (.cells #[.int .i64 0, .int .i64 0, .string ⟨#[]⟩] 54)) (w.heap.size + 1) 54 (.int .i64 0) (.int .i64 0) (.string ⟨#[]⟩)) := Box3.madeAt (by simp) _ _ _ _
  clear h hT hy
  go_enter Tryd.func24, Tryd.ntmps24
  go_wp2_with fail
  generalize ((w.alloc (.cells #[.slice a0 b.nr c0, .slice a1 b.ns c1] 46)).alloc (.cells #[.int .i64 0, .int .i64 0, .string ⟨#[]⟩] 54)) = v at *
  refine (BO.out _ (HV.out.below A1.out) (TB.out.below A1.out)).mono ?_
  rintro e v1 ⟨rfl, hb⟩
  replace A1 : Hid (Below w.heap.size w v1) := A1.out.trans (hb.mono A1.out.size)
  replace X : Hid (Box2 v1 w.heap.size 46 (.slice a0 b.nr c0) (.slice a1 b.ns c1)) := X.out.below hb
  replace Y : Hid (Box3 v1 (w.heap.size + 1) 54 (.int .i64 0) (.int .i64 0) (.string ⟨#[]⟩)) := Y.out.below hb
  clear hb BO
  rcases HY.out with ⟨q, rfl, rfl⟩ | ⟨q, q2, rfl, rfl⟩ | ⟨q, q2, rfl, rfl⟩
  · rw [okB_no q]
    have u0 := Y.out.c0
    have u1 := Y.out.c1
    have u2 := Y.out.c2
    have f0 := Y.out.fr 0
    have f1 := Y.out.fr 1
    have f2 := Y.out.fr 2
    clear q FI HY
    go_wp2
    exact ret_cell2 (b := w.heap.size + 1) Tryd.results24 rfl rfl (Box3.loadrg (((Y.out.set0 _).set1 _).set2 _)) ⟨rfl, ((A1.out.setCell (by simp) _).setCell (by simp) _).setCell (by simp) _⟩
  · rw [okB_yes q]
    have FH : Hid (∀ (w : World), Els w 3 a0 b.nr (rgF b.R) → Calls Tryd.prog 57 #[.slice a0 b.nr c0, .int .i64 x, .func (.func 58) #[] #[]] w fun e w' => e = .returned (.agg #[.int .i64 0, .int .i64 0, .string ⟨#[]⟩]) ∧ Below w.heap.size w w') := fun w h => FI.out rgZ w q h (.inr ⟨q2, rfl⟩)
    have x0 := X.out.c0
    clear q q2 FI HY
    go_wp2_with fail
    refine (FH.out _ (HV.out.1.below A1.out)).mono ?_
    rintro e v2 ⟨rfl, hb⟩
    replace A1 : Hid (Below w.heap.size w v2) := A1.out.trans (hb.mono A1.out.size)
    replace Y : Hid (Box3 v2 (w.heap.size + 1) 54 (.int .i64 0) (.int .i64 0) (.string ⟨#[]⟩)) := Y.out.below hb
    have lt := Y.out.lt
    have u0 := Y.out.c0
    have u1 := Y.out.c1
    have u2 := Y.out.c2
    have f0 := Y.out.fr 0
    have f1 := Y.out.fr 1
    have f2 := Y.out.fr 2
    clear hb x0 X FH
    go_wp2
    exact ret_cell2 (b := w.heap.size + 1) Tryd.results24 rfl rfl (Box3.loadrg (Box3.alloc (((Y.out.set0 _).set1 _).set2 _) _)) ⟨rfl, (((A1.out.setCell (by simp) _).setCell (by simp) _).setCell (by simp) _).alloc (by have := A1.out.size; simpa using this) _⟩
  · rw [okB_yes q]
    have FH : Hid (∀ (w : World), Els w 3 a0 b.nr (rgF b.R) → Calls Tryd.prog 57 #[.slice a0 b.nr c0, .int .i64 x, .func (.func 58) #[] #[]] w fun e w' => e = .returned (.agg #[.int .i64 (b.R (b.kR x)).v, .int .i64 (b.R (b.kR x)).c, .string (b.R (b.kR x)).r]) ∧ Below w.heap.size w w') := fun w h => FI.out _ w q h (.inl ⟨q2.1, q2.2, rfl⟩)
    have hc := (q.1.2 _ q2.1).1.2.1
    have x0 := X.out.c0
    generalize hu : b.R (b.kR x) = u at *
    have HU : Hid (b.R (b.kR x) = u) := hu
    clear hu
    obtain ⟨uv, uc, ur⟩ := u
    dsimp only at *
    have hc1 : ¬ uc = 0 := by omega
    have hc2 : (uc == 0) = false := by simpa using hc1
    clear q q2 FI HY hc
    go_wp2_with fail
    refine (FH.out _ (HV.out.1.below A1.out)).mono ?_
    rintro e v2 ⟨rfl, hb⟩
    replace A1 : Hid (Below w.heap.size w v2) := A1.out.trans (hb.mono A1.out.size)
    replace Y : Hid (Box3 v2 (w.heap.size + 1) 54 (.int .i64 0) (.int .i64 0) (.string ⟨#[]⟩)) := Y.out.below hb
    have lt := Y.out.lt
    have u0 := Y.out.c0
    have u1 := Y.out.c1
    have u2 := Y.out.c2
    have f0 := Y.out.fr 0
    have f1 := Y.out.fr 1
    have f2 := Y.out.fr 2
    clear hb x0 X FH
    go_wp2
    exact ret_cell2 (b := w.heap.size + 1) Tryd.results24 rfl rfl (Box3.loadrg (Box3.alloc (((Y.out.set0 _).set1 _).set2 _) _)) ⟨by rw [HU.out]; rfl, (((A1.out.setCell (by simp) _).setCell (by simp) _).setCell (by simp) _).alloc (by have := A1.out.size; simpa using this) _⟩
set_option maxRecDepth 100000 in
set_option maxHeartbeats 2000000 in
theorem l08Find_any (b : Bk) (x : Int) (z : Int) (hk : b.Ok) (hz : (b.hasR x ∧ z = (b.kR x : Nat)) ∨ (¬ b.hasR x ∧ z = -1)) (a0 a1 : Option Addr) (c0 c1 : Nat) (w : World) (h : BankV w b a0 a1) :
    Calls Tryd.prog 113 #[.agg #[.slice a0 b.nr c0, .slice a1 b.ns c1], .int .i64 x] w fun e w' => e = .returned (.int .i64 z) ∧ Below w.heap.size w w' := by
  have HP : Hid (Pos (fun i => (b.R i).v) b.nr x (b.kR x)) := hk.posR x
  have HR : Hid (Rises (fun i => (b.R i).v) b.nr) := hk.risesR
  have HZ : Hid ((b.hasR x ∧ z = (b.kR x : Nat)) ∨ (¬ b.hasR x ∧ z = -1)) := hz
  have HV : Hid (Els w 3 a0 b.nr (rgF b.R)) := h.1
  have hn := hk.1.1
  have A1 : Hid (Below w.heap.size w (w.alloc (.cells #[.slice a0 b.nr c0, .slice a1 b.ns c1] 46))) := (Below.refl _ _).alloc (Nat.le_refl _) _
  have X : Hid (Box2 (w.alloc (.cells #[.slice a0 b.nr c0, .slice a1 b.ns c1] 46)) w.heap.size 46 (.slice a0 b.nr c0) (.slice a1 b.ns c1)) := Box2.made _ _ _ _
  clear h hz hk
  go_enter Tryd.func113, Tryd.ntmps113
  go_wp2
  generalize (w.alloc (.cells #[.slice a0 b.nr c0, .slice a1 b.ns c1] 46)) = v at *
  go_loopw [5] (fun i wr => ∃ k : Nat, k ≤ b.nr ∧ i = .int .i64 k ∧ (∀ i, i < k → (b.R i).v ≠ x) ∧ v = wr) (fun i _ => b.nr - (intOf i).toNat)
  case atStart => exact ⟨0, by omega, rfl, fun i hi => absurd hi (by omega), rfl⟩
  case round =>
    obtain ⟨k, hk, rfl, hI, rfl⟩ := hrel
    have HI : Hid (∀ i, i < k → (b.R i).v ≠ x) := hI
    have x0 := X.out.c0
    clear hI
    by_cases hlt : k < b.nr
    · have hlt' : (k : Int) < (b.nr : Int) := by omega
      obtain ⟨g, off, rfl, hc⟩ := (HV.out.below A1.out).opened (by omega)
      obtain ⟨d0, d1, d2⟩ := Els.rgC hc k hlt
      clear hc d1 d2
      by_cases q : (b.R k).v = x
      · have e0 : ((b.R k).v == x) = true := by simpa using q
        obtain rfl : z = (k : Int) := by
          have hh : b.kR x = k := by
            have p := HP.out
            rcases Nat.lt_trichotomy (b.kR x) k with g | g | g
            · have := HR.out _ _ g hlt
              have := p.2.2 _ (Nat.le_refl _) (by omega)
              dsimp only at *
              omega
            · exact g
            · have := p.2.1 k g
              dsimp only at *
              omega
          rcases HZ.out with ⟨_, e⟩ | ⟨n, _⟩
          · rw [e, hh]
          · exact absurd ⟨by rw [hh]; exact hlt, by rw [hh]; exact q⟩ n
        clear q
        go_wp2
        go_ret
        exact ⟨rfl, A1.out⟩
      · have e0 : ((b.R k).v == x) = false := by simpa using q
        have Q : Hid (¬ (b.R k).v = x) := q
        clear q
        go_wp2
        go_roundw
        case rel => exact ⟨k + 1, by omega, by go_num, fun i hi => by
          rcases Nat.lt_or_ge i k with g | g
          · exact HI.out i g
          · obtain rfl : i = k := by omega
            exact Q.out, trivial⟩
        case measure => simp [intOf]; omega
    · have hlt' : ¬ (k : Int) < (b.nr : Int) := by omega
      obtain rfl : z = -1 := by
        rcases HZ.out with ⟨⟨h1, h2⟩, _⟩ | ⟨_, e⟩
        · exact absurd h2 (HI.out _ (by omega))
        · exact e
      go_wp2
      go_ret
      exact ⟨rfl, A1.out⟩
end Go.Proofs.YtpngjkhncfbnpaaDoor
