/-
  Texts of the proof, joined: BankRd.
-/
import Derived.Test.YtpngjkhncfbnpaaDoorU21
import Derived.Test.YtpngjkhncfbnpaaDoorU22
import Derived.Test.YtpngjkhncfbnpaaDoorU23
import Derived.Test.YtpngjkhncfbnpaaDoorU24
namespace Go.Proofs.YtpngjkhncfbnpaaDoor
open Go.ChangeShapes Go.WideShapes Go.ChangeAt Go.RowKit
set_option linter.unusedVariables false
def Bk.kR (b : Bk) (x : Int) : Nat := posN (fun i => (b.R i).v) x b.nr
def Bk.hasR (b : Bk) (x : Int) : Prop := b.kR x < b.nr ∧ (b.R (b.kR x)).v = x
theorem Bk.Ok.risesR {b : Bk} (h : b.Ok) : Rises (fun i => (b.R i).v) b.nr := rises_of (fun i hi hp => (h.1.2 i hi).2 hp)
theorem Bk.Ok.risesS {b : Bk} (h : b.Ok) : Rises (fun i => (b.S i).id) b.ns := rises_of (fun i hi hp => (h.2.2 i hi).2 hp)
theorem Bk.Ok.posR {b : Bk} (h : b.Ok) (x : Int) : Pos (fun i => (b.R i).v) b.nr x (b.kR x) := pos_of h.risesR x
set_option maxRecDepth 100000 in
set_option maxHeartbeats 2000000 in
theorem l08Find_any (b : Bk) (x : Int) (z : Int) (hk : b.Ok) (hz : (b.hasR x ∧ z = (b.kR x : Nat)) ∨ (¬ b.hasR x ∧ z = -1)) (a0 a1 : Option Addr) (c0 c1 : Nat) (w : World) (h : BankV w b a0 a1) :
    Calls Tryd.prog 113 #[.agg #[.slice a0 b.nr c0, .slice a1 b.ns c1], .int .i64 x] w fun e w' => e = .returned (.int .i64 z) ∧ Below w.heap.size w w' := by
  have HP : Hid (Pos (fun i => (b.R i).v) b.nr x (b.kR x)) := hk.posR x
  have HR : Hid (Rises (fun i => (b.R i).v) b.nr) := hk.risesR
  have HZ : Hid ((b.hasR x ∧ z = (b.kR x : Nat)) ∨ (¬ b.hasR x ∧ z = -1)) := hz
  have HV : Hid (Els w 3 a0 b.nr (rgF b.R)) := h.1
  have hn := hk.1.1
  have A1 : Hid (Below w.heap.size w (w.alloc (.cells #[.slice a0 b.nr c0, .slice a1 b.ns c1] 46))) := (Below.refl _ _).alloc (Nat.le_refl _) _
  have X : Hid (Box2 (w.alloc (.cells #[.slice a0 b.nr c0, .slice a1 b.ns c1] 46)) w.heap.size 46 (.slice a0 b.nr c0) (.slice a1 b.ns c1)) := Box2.made _ _ _ _
  clear h hz hk
  go_enter Tryd.func113, Tryd.ntmps113
  go_wp2
  generalize (w.alloc (.cells #[.slice a0 b.nr c0, .slice a1 b.ns c1] 46)) = v at *
  go_loopw [5] (fun i wr => ∃ k : Nat, k ≤ b.nr ∧ i = .int .i64 k ∧ (∀ i, i < k → (b.R i).v ≠ x) ∧ v = wr) (fun i _ => b.nr - (intOf i).toNat)
  case atStart => exact ⟨0, by omega, rfl, fun i hi => absurd hi (by omega), rfl⟩
  case round =>
    obtain ⟨k, hk, rfl, hI, rfl⟩ := hrel
    have HI : Hid (∀ i, i < k → (b.R i).v ≠ x) := hI
    have x0 := X.out.c0
    clear hI
    by_cases hlt : k < b.nr
    · have hlt' : (k : Int) < (b.nr : Int) := by omega
      obtain ⟨g, off, rfl, hc⟩ := (HV.out.below A1.out).opened (by omega)
      obtain ⟨d0, d1, d2⟩ := Els.rgC hc k hlt
      clear hc d1 d2
      by_cases q : (b.R k).v = x
      · have e0 : ((b.R k).v == x) = true := by simpa using q
        obtain rfl : z = (k : Int) := by
          have hh : b.kR x = k := by
            have p := HP.out
            rcases Nat.lt_trichotomy (b.kR x) k with g | g | g
            · have := HR.out _ _ g hlt
              have := p.2.2 _ (Nat.le_refl _) (by omega)
              dsimp only at *
              omega
            · exact g
            · have := p.2.1 k g
              dsimp only at *
              omega
          rcases HZ.out with ⟨_, e⟩ | ⟨n, _⟩
          · rw [e, hh]
          · exact absurd ⟨by rw [hh]; exact hlt, by rw [hh]; exact q⟩ n
        clear q
        go_wp2
        go_ret
        exact ⟨rfl, A1.out⟩
      · have e0 : ((b.R k).v == x) = false := by simpa using q
        have Q : Hid (¬ (b.R k).v = x) := q
        clear q
        go_wp2
        go_roundw
        case rel => exact ⟨k + 1, by omega, by go_num, fun i hi => by
          rcases Nat.lt_or_ge i k with g | g
          · exact HI.out i g
          · obtain rfl : i = k := by omega
            exact Q.out, trivial⟩
        case measure => simp [intOf]; omega
    · have hlt' : ¬ (k : Int) < (b.nr : Int) := by omega
      obtain rfl : z = -1 := by
        rcases HZ.out with ⟨⟨h1, h2⟩, _⟩ | ⟨_, e⟩
        · exact absurd h2 (HI.out _ (by omega))
        · exact e
      go_wp2
      go_ret
      exact ⟨rfl, A1.out⟩
end Go.Proofs.YtpngjkhncfbnpaaDoor
