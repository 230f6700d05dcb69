/-
  New disks: NewDisk of the program and of the model; its exact law.
-/
import Derived.Test.YtgdfhgepbamhmaaDoorDiskTo
import Derived.Test.YtgdfhgepbamhmaaDoorInAny
import Derived.Test.YtgdfhgepbamhmaaDoorMarkD
namespace Go.Proofs.YtgdfhgepbamhmaaDoor
open Go.ChangeShapes Go.WideShapes Go.ChangeAt Go.RowKit
/-- A disk of n empty blocks. -/
def newD (n : Nat) : Dk := ⟨n, fun _ => ⟨#[]⟩, 0, fun _ => 0, fun _ => ⟨#[]⟩, 0, fun _ => ⟨#[]⟩⟩
/-- A disk in rows from block B on is handed back, and a code. -/
def RetD (B : Nat) (w' : World) (e : Ending) (d : Dk) (code : Int) : Prop := ∃ (a0 a1 a2 : Option Addr) (c0 c1 c2 g0 g1 g2 : Nat), e = .returned (.tuple #[.agg #[.slice a0 d.nb c0, .slice a1 d.nc c1, .slice a2 d.ns c2], .int .i64 code]) ∧ RowD w' d a0 a1 a2 g0 g1 g2 ∧ (0 < d.nb → B ≤ g0) ∧ (0 < d.nc → B ≤ g1) ∧ (0 < d.ns → B ≤ g2)
theorem RowD.empty (w : World) (a0 a1 a2 : Option Addr) : RowD w (newD 0) a0 a1 a2 0 0 0 := ⟨RowS.nil _ _ _ _, RowP.nil _ _ _ _ _, RowS.nil _ _ _ _, fun h => absurd h (by decide), fun h => absurd h (by decide), fun h => absurd h (by decide)⟩
theorem RowD.newD {w : World} {g n m : Nat} {t : TypeId} {F : Nat → Value} (h : w.rowIs g t m F) (hn : n ≤ m) (e : ∀ i, i < n → F i = .string ⟨#[]⟩) (a1 a2 : Option Addr) : RowD w (newD n) (some ⟨g, 0, none⟩) a1 a2 g 0 0 := ⟨RowS.ofRow h hn e, RowP.nil _ _ _ _ _, RowS.nil _ _ _ _, fun _ h => absurd h (Nat.lt_irrefl 0), fun _ h => absurd h (Nat.lt_irrefl 0), fun h => absurd h (Nat.lt_irrefl 0)⟩
set_option maxRecDepth 100000 in
set_option maxHeartbeats 1000000 in
theorem implNew_any (x : Int) (d : Dk) (code : Int) (h : (1 ≤ x ∧ x ≤ 64 ∧ d = newD x.toNat ∧ code = 0) ∨ (¬ (1 ≤ x ∧ x ≤ 64) ∧ d = newD 0 ∧ code = 4)) (w : World) :
    Calls Tryd.prog 21 #[.int .i64 x] w fun e w' => RetD w.heap.size w' e d code ∧ Below w.heap.size w w' := by
  rcases h with ⟨x0, x1, rfl, rfl⟩ | ⟨hx, rfl, rfl⟩
  · obtain ⟨n, rfl⟩ := Int.eq_ofNat_of_zero_le (a := x) (by omega)
    rw [Int.toNat_natCast]
    have y0 : ¬ (n : Int) < 1 := by omega
    have y1 : ¬ (64 : Int) < (n : Int) := by omega
    have hmk := mkStrsD n (by omega)
    clear x0 x1
    go_enter Tryd.func21, Tryd.ntmps21
    go_wp2
    have RR : (((w.alloc (.cells #[.slice (some ⟨w.heap.size + 1, 0, none⟩) n n, .slice none 0 0, .slice none 0 0] 27)).alloc (.cells (madeCells #[.string ⟨#[]⟩] n) 9))).rowIs (w.heap.size + 1) 9 n (fun _ => .string ⟨#[]⟩) := by
      have := World.rowIs_made (w.alloc (.cells #[.slice (some ⟨w.heap.size + 1, 0, none⟩) n n, .slice none 0 0, .slice none 0 0] 27)) (.string ⟨#[]⟩) n 9
      simpa using this
    exact ret_cell2 (b := w.heap.size) (v := .agg #[.slice (some ⟨w.heap.size + 1, 0, none⟩) n n, .slice none 0 0, .slice none 0 0]) Tryd.results21 rfl rfl (by go_simp) ⟨⟨_, _, _, _, _, _, _, _, _, rfl, RowD.newD RR (Nat.le_refl _) (fun _ _ => rfl) none none, fun _ => by omega, fun h => absurd h (Nat.lt_irrefl 0), fun h => absurd h (Nat.lt_irrefl 0)⟩, ((Below.refl w.heap.size w).alloc (Nat.le_refl _) _).alloc (by simp) _⟩
  · by_cases y0 : x < 1
    · go_enter Tryd.func21, Tryd.ntmps21
      go_wp2
      exact ret_cell2 (b := w.heap.size) (v := .agg #[.slice none 0 0, .slice none 0 0, .slice none 0 0]) Tryd.results21 rfl rfl (by go_simp) ⟨⟨_, _, _, _, _, _, _, _, _, rfl, RowD.empty _ none none none, fun h => absurd h (Nat.lt_irrefl 0), fun h => absurd h (Nat.lt_irrefl 0), fun h => absurd h (Nat.lt_irrefl 0)⟩, (Below.refl w.heap.size w).alloc (Nat.le_refl _) _⟩
    · have y1 : (64 : Int) < x := by omega
      clear hx
      go_enter Tryd.func21, Tryd.ntmps21
      go_wp2
      exact ret_cell2 (b := w.heap.size) (v := .agg #[.slice none 0 0, .slice none 0 0, .slice none 0 0]) Tryd.results21 rfl rfl (by go_simp) ⟨⟨_, _, _, _, _, _, _, _, _, rfl, RowD.empty _ none none none, fun h => absurd h (Nat.lt_irrefl 0), fun h => absurd h (Nat.lt_irrefl 0), fun h => absurd h (Nat.lt_irrefl 0)⟩, (Below.refl w.heap.size w).alloc (Nat.le_refl _) _⟩
set_option maxRecDepth 100000 in
set_option maxHeartbeats 1000000 in
theorem specNew_any (x : Int) (d : Dk) (code : Int) (h : (1 ≤ x ∧ x ≤ 64 ∧ d = newD x.toNat ∧ code = 0) ∨ (¬ (1 ≤ x ∧ x ≤ 64) ∧ d = newD 0 ∧ code = 4)) (w : World) :
    Calls Tryd.prog 17 #[.int .i64 x] w fun e w' => RetD w.heap.size w' e d code ∧ Below w.heap.size w w' := by
  rcases h with ⟨x0, x1, rfl, rfl⟩ | ⟨hx, rfl, rfl⟩
  · obtain ⟨n, rfl⟩ := Int.eq_ofNat_of_zero_le (a := x) (by omega)
    rw [Int.toNat_natCast]
    have IN : Hid (∀ w : World, Calls Tryd.prog 35 #[.int .i64 (n : Int), .int .i64 1, .int .i64 64] w fun e w' => e = .returned (.bool true) ∧ w = w') := fun w => in_any _ _ _ true (by simp; omega) w
    have hmk := mkStrsD n (by omega)
    have hn0 : 0 ≤ (n : Int) := by omega
    clear x0 x1
    go_enter Tryd.func17, Tryd.ntmps17
    go_wp2_with fail
    refine (IN.out _).mono ?_
    rintro e w1 ⟨rfl, rfl⟩
    clear IN
    go_wp2
    have RR : ((((w.alloc (.cells #[.slice (some ⟨w.heap.size + 1, 0, none⟩) n n, .slice (some ⟨w.heap.size + 1 + 1, 0, none⟩) 0 0, .slice (some ⟨w.heap.size + 1 + 1 + 1, 0, none⟩) 0 0] 27)).alloc (.cells (madeCells #[.string ⟨#[]⟩] n) 9)).alloc (.cells #[] 68)).alloc (.cells #[] 9)).rowIs (w.heap.size + 1) 9 n (fun _ => .string ⟨#[]⟩) := by
      have := ((World.rowIs_made (w.alloc (.cells #[.slice (some ⟨w.heap.size + 1, 0, none⟩) n n, .slice (some ⟨w.heap.size + 1 + 1, 0, none⟩) 0 0, .slice (some ⟨w.heap.size + 1 + 1 + 1, 0, none⟩) 0 0] 27)) (.string ⟨#[]⟩) n 9).alloc (.cells #[] 68)).alloc (.cells #[] 9)
      simpa using this
    exact ret_cell2 (b := w.heap.size) (v := .agg #[.slice (some ⟨w.heap.size + 1, 0, none⟩) n n, .slice (some ⟨w.heap.size + 1 + 1, 0, none⟩) 0 0, .slice (some ⟨w.heap.size + 1 + 1 + 1, 0, none⟩) 0 0]) Tryd.results17 rfl rfl (by go_simp) ⟨⟨_, _, _, _, _, _, _, _, _, rfl, RowD.newD RR (Nat.le_refl _) (fun _ _ => rfl) _ _, fun _ => by omega, fun h => absurd h (Nat.lt_irrefl 0), fun h => absurd h (Nat.lt_irrefl 0)⟩, ((((Below.refl w.heap.size w).alloc (Nat.le_refl _) _).alloc (by simp) _).alloc (by simp; omega) _).alloc (by simp; omega) _⟩
  · have IN : Hid (∀ w : World, Calls Tryd.prog 35 #[.int .i64 x, .int .i64 1, .int .i64 64] w fun e w' => e = .returned (.bool false) ∧ w = w') := fun w => in_any _ _ _ false (by simp; omega) w
    clear hx
    go_enter Tryd.func17, Tryd.ntmps17
    go_wp2_with fail
    refine (IN.out _).mono ?_
    rintro e w1 ⟨rfl, rfl⟩
    clear IN
    go_wp2
    exact ret_cell2 (b := w.heap.size) (v := .agg #[.slice none 0 0, .slice none 0 0, .slice none 0 0]) Tryd.results17 rfl rfl (by go_simp) ⟨⟨_, _, _, _, _, _, _, _, _, rfl, RowD.empty _ none none none, fun h => absurd h (Nat.lt_irrefl 0), fun h => absurd h (Nat.lt_irrefl 0), fun h => absurd h (Nat.lt_irrefl 0)⟩, (Below.refl w.heap.size w).alloc (Nat.le_refl _) _⟩
end Go.Proofs.YtgdfhgepbamhmaaDoor
