/-
  Contracts of the exact laws' helpers on slices of bytes: a copy, an equality, a marking, a look at the marks.
-/
import Derived.Test.YtglfhajfbdjjcaaCode8
import Derived.OpenShut
import Derived.Deep.OwnRows
namespace Go.Proofs.Ytglfhajfbdjjcaa
open Go.ChangeShapes Go.WideShapes Go.ChangeAt Go.RowKit
theorem numEq8 {k : IntKind} {a b : Int} (h : a = b) : Value.int k a = .int k b := by rw [h]
theorem Try.info8 : (Try.prog.info? 5).map (fun i => (i.zero, i.size, i.bytes)) = some (some (.int .u8 0), 1, 1) := by kernel_rfl
theorem mkBytes (n : Nat) (hn : n ≤ 10000000) (w : World) : (Instr.makeSlice 30 (.int .i64 (n : Int)) (.int .i64 (n : Int))).run Try.prog w = .ok (.slice (some ⟨w.heap.size, 0, none⟩) n n) (w.alloc (.cells (madeCells #[.int .u8 0] n) 5)) :=
  run_make_row' 30 5 (.int .u8 0) 1 Try.underlying30 Try.info8 rfl .i64 .i64 n (by omega) (by omega) w
theorem u8wrap (k : Nat) : IntKind.u8.wrap (k : Int) = ((k % 256 : Nat) : Int) := by
  show ((k : Int) % 256) = _
  omega
/-- laws.toByteS -/
theorem toByteS_any (a : Option Addr) (n c : Nat) (f : Nat → Nat) (w : World) (h : Code8 w a n f) (hn : n ≤ 1048576) :
    Calls Try.prog 22 #[.slice a n c] w fun e w' => e = .returned (.slice (some ⟨w.heap.size, 0, none⟩) n n) ∧ Own8 w' w.heap.size n f ∧ Below w.heap.size w w' := by
  have m1 := mkBytes n (by omega)
  rcases Nat.eq_zero_or_pos n with rfl | hpos
  · have m0 : ∀ w : World, (Instr.makeSlice 30 (.int .i64 0) (.int .i64 0)).run Try.prog w = .ok (.slice (some ⟨w.heap.size, 0, none⟩) 0 0) (w.alloc (.cells (madeCells #[.int .u8 0] 0) 5)) := mkBytes 0 (by omega)
    go_enter Try.func22, Try.ntmps22
    go_wp2
    go_loopw [4] (fun i wr => i = .int .i64 0 ∧ wr = w.alloc (.cells (madeCells #[.int .u8 0] 0) 5)) (fun _ _ => 0)
    case atStart => exact ⟨rfl, rfl⟩
    case round =>
      obtain ⟨rfl, rfl⟩ := hrel
      go_wp2
      go_ret
      exact ⟨rfl, Own8.ofRow ((World.rowIs_made w (.int .u8 0) 0 5).congr (fun j hj => by omega)), (Below.refl _ _).alloc (Nat.le_refl _) _⟩
  · obtain ⟨b, off, rfl, hc⟩ := h.opened hpos
    have HC : Hid (∀ i, i < n → w.cell? ⟨b, off + i, none⟩ = some (.int .u8 (f i : Nat))) := hc
    clear h hc
    go_enter Try.func22, Try.ntmps22
    go_wp2
    go_loopw [4] (fun i wr => ∃ k : Nat, k ≤ n ∧ i = .int .i64 k ∧ wr.rowIs w.heap.size 5 n (fun j => .int .u8 ((if j < k then f j else 0 : Nat) : Int)) ∧ Below w.heap.size w wr) (fun i _ => n - (intOf i).toNat)
    case atStart =>
      refine ⟨0, by omega, rfl, ?_, (Below.refl _ _).alloc (Nat.le_refl _) _⟩
      exact (World.rowIs_made w (.int .u8 0) n 5).congr (fun j hj => by simp)
    case round =>
      obtain ⟨k, hk, rfl, hrow, hb⟩ := hrel
      have HR : Hid (wr.rowIs w.heap.size 5 n (fun j => .int .u8 ((if j < k then f j else 0 : Nat) : Int))) := hrow
      have HB : Hid (Below w.heap.size w wr) := hb
      by_cases hlt : k < n
      · have c0 := HC.out k hlt
        have c1 : wr.cell? ⟨b, off + k, none⟩ = some (.int .u8 (f k : Nat)) := by rw [hb.cell (strBlock c0)]; exact c0
        have c2 := hrow.cell hlt
        have f2 := hrow.frozen k
        clear hrow hb c0
        go_wp2
        go_roundw
        case rel =>
          refine ⟨k + 1, by omega, by go_num, ?_, HB.out.setCell (by simp) _⟩
          exact (HR.out.set k _).congr (fun j hj => by
            by_cases e : j = k
            · subst e; simp
            · simp only [if_neg e]
              by_cases g : j < k
              · rw [if_pos g, if_pos (by omega)]
              · rw [if_neg g, if_neg (by omega)])
        case measure => simp [intOf]; omega
      · clear hrow hb
        go_wp2
        go_ret
        exact ⟨rfl, Own8.ofRow (HR.out.congr (fun j hj => numEq8 (by rw [if_pos (by omega)]))), HB.out⟩
/-- laws.eqByteS of two slices that read alike. -/
theorem eqByteS_yes (a b : Option Addr) (n c d : Nat) (f : Nat → Nat) (w : World) (h : Code8 w a n f) (h' : Code8 w b n f) (hn : n ≤ 1048576) :
    Calls Try.prog 24 #[.slice a n c, .slice b n d] w fun e w' => e = .returned (.bool true) ∧ ∃ q, w' = w.drewN q := by
  rcases Nat.eq_zero_or_pos n with rfl | hpos
  · go_enter Try.func24, Try.ntmps24
    go_wp2
    go_loopw [5] (fun i wr => i = .int .i64 0 ∧ wr = w) (fun _ _ => 0)
    case atStart => exact ⟨rfl, rfl⟩
    case round =>
      obtain ⟨rfl, rfl⟩ := hrel
      go_wp2
      go_ret
      exact ⟨rfl, 0, rfl⟩
  · obtain ⟨b1, o1, rfl, hc⟩ := h.opened hpos
    obtain ⟨b2, o2, rfl, hc'⟩ := h'.opened hpos
    have HC : Hid (∀ i, i < n → w.cell? ⟨b1, o1 + i, none⟩ = some (.int .u8 (f i : Nat))) := hc
    have HD : Hid (∀ i, i < n → w.cell? ⟨b2, o2 + i, none⟩ = some (.int .u8 (f i : Nat))) := hc'
    clear h h' hc hc'
    have hne : ((n : Int) != (n : Int)) = false := by simp
    go_enter Try.func24, Try.ntmps24
    go_wp2
    go_loopw [5] (fun i wr => ∃ k : Nat, k ≤ n ∧ i = .int .i64 k ∧ ∃ q, wr = w.drewN q) (fun i _ => n - (intOf i).toNat)
    case atStart => exact ⟨0, by omega, rfl, 0, rfl⟩
    case round =>
      obtain ⟨k, hk, rfl, q, rfl⟩ := hrel
      by_cases hlt : k < n
      · have c1 := HC.out k hlt
        have c2 := HD.out k hlt
        have hlt' : (k : Int) < (n : Int) := by omega
        have hself : ((f k : Int) != (f k : Int)) = false := by simp
        generalize f k = V at *
        go_wp2
        go_quiet (fail)
        go_wp2
        go_roundw
        case rel => exact ⟨k + 1, by omega, by go_num, _, by first | rfl | rw [World.drewN_drewN]⟩
        case measure => simp [intOf]; omega
      · go_wp2
        go_ret
        exact ⟨rfl, q, rfl⟩
/-- What a slice of bytes reads as when it has been marked. -/
def mk8 (i : Nat) : Nat := (i + 1) % 256
/-- laws.markByteS -/
theorem markByteS_any (a : Option Addr) (B n c : Nat) (f : Nat → Nat) (w : World) (h : OwnS w B a n f) (hn : n ≤ 1048576) :
    Calls Try.prog 25 #[.slice a n c, .int .i64 1] w fun e w' => e = .returned (.int .i64 ((n + 1 : Nat) : Int)) ∧ OwnS w' B a n mk8 ∧ (n = 0 → w' = w) ∧ ∀ x, a = some x → 0 < n → OnlyB x.block w w' := by
  rcases Nat.eq_zero_or_pos n with rfl | hpos
  · go_enter Try.func25, Try.ntmps25
    go_wp2
    go_loopw [1, 5] (fun k i wr => k = .int .i64 1 ∧ i = .int .i64 0 ∧ wr = w) (fun _ _ _ => 0)
    case atStart => exact ⟨rfl, rfl, rfl⟩
    case round =>
      obtain ⟨rfl, rfl, rfl⟩ := hrel
      go_wp2
      go_ret
      exact ⟨rfl, .inl rfl, fun _ => rfl, fun _ _ h => absurd h (by omega)⟩
  · rcases h with h | ⟨b, hB, rfl, hr⟩
    · omega
    have HR0 : Hid (Own8 w b n f) := hr
    clear hr
    go_enter Try.func25, Try.ntmps25
    go_wp2
    go_loopw [1, 5] (fun x i wr => ∃ k : Nat, k ≤ n ∧ i = .int .i64 k ∧ x = .int .i64 (k + 1 : Nat) ∧ Own8 wr b n (fun j => if j < k then mk8 j else f j) ∧ OnlyB b w wr) (fun _ i _ => n - (intOf i).toNat)
    case atStart => exact ⟨0, by omega, rfl, rfl, HR0.out.congr (fun j hj => by simp), OnlyB.refl _ _⟩
    case round =>
      obtain ⟨k, hk, rfl, rfl, hrow, hb⟩ := hrel
      have HR : Hid (Own8 wr b n (fun j => if j < k then mk8 j else f j)) := hrow
      have HB : Hid (OnlyB b w wr) := hb
      by_cases hlt : k < n
      · have c2 := hrow.cell hlt
        have f2 := hrow.frozen k
        have ew : ((k : Int) + 1) % 256 = ((mk8 k : Nat) : Int) := by unfold mk8; omega
        clear hrow hb
        generalize hM : mk8 k = M at *
        have HM : Hid (mk8 k = M) := hM
        clear hM
        go_wp2
        go_roundw
        case rel =>
          refine ⟨k + 1, by omega, by go_num, by go_num, ?_, HB.out.setCell k _⟩
          refine (HR.out.set k M).congr (fun j hj => ?_)
          by_cases e : j = k
          · subst e; rw [if_pos rfl, if_pos (by omega)]; exact HM.out.symm
          · rw [if_neg e]
            by_cases h1 : j < k
            · rw [if_pos h1, if_pos (by omega)]
            · rw [if_neg h1, if_neg (by omega)]
        case measure => simp [intOf]; omega
      · have e : k = n := by omega
        have E : Hid (k = n) := e
        clear hrow hb e
        go_wp2
        go_ret
        exact ⟨by rw [E.out]; rfl, .inr ⟨b, hB, rfl, HR.out.congr (fun j hj => by rw [if_pos (by have := E.out; omega)])⟩, fun h => absurd h (by omega), fun x hx _ => by cases hx; exact HB.out⟩
theorem markOwn (b n c : Nat) (f : Nat → Nat) (w : World) (h : Own8 w b n f) (hn : n ≤ 1048576) :
    Calls Try.prog 25 #[.slice (some ⟨b, 0, none⟩) n c, .int .i64 1] w fun e w' => e = .returned (.int .i64 ((n + 1 : Nat) : Int)) ∧ Own8 w' b n mk8 ∧ OnlyB b w w' := by
  refine (markByteS_any (some ⟨b, 0, none⟩) b n c f w (.inr ⟨b, Nat.le_refl _, rfl, h⟩) hn).mono ?_
  rintro e w' ⟨he, ho, h0, h1⟩
  rcases Nat.eq_zero_or_pos n with rfl | hpos
  · have := h0 rfl
    subst this
    exact ⟨he, h.congr (fun i hi => absurd hi (by omega)), OnlyB.refl _ _⟩
  · rcases ho with h | ⟨b', _, ha, hr⟩
    · omega
    · cases ha
      exact ⟨he, hr, h1 _ rfl hpos⟩
theorem markS (a : Option Addr) (B n c : Nat) (f : Nat → Nat) (w : World) (h : OwnS w B a n f) (hB : B ≤ w.heap.size) (hn : n ≤ 1048576) :
    Calls Try.prog 25 #[.slice a n c, .int .i64 1] w fun e w' => e = .returned (.int .i64 ((n + 1 : Nat) : Int)) ∧ OwnS w' B a n mk8 ∧ Below B w w' := by
  refine (markByteS_any a B n c f w h hn).mono ?_
  rintro e w' ⟨he, ho, h0, h1⟩
  rcases Nat.eq_zero_or_pos n with rfl | hpos
  · have := h0 rfl
    subst this
    exact ⟨he, ho, Below.refl _ _⟩
  · rcases ho with h | ⟨b', hb', rfl, hr⟩
    · omega
    · exact ⟨he, .inr ⟨b', hb', rfl, hr⟩, (h1 _ rfl hpos).toBelow hb' hB⟩
end Go.Proofs.Ytglfhajfbdjjcaa
