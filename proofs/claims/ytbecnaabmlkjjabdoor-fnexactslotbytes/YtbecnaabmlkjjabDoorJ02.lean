/-
  Contracts of the exact laws' helpers on slices of bytes: a copy, an equality, a marking, a look at the marks.
-/
import Derived.Test.YtbecnaabmlkjjabDoorJ01
import Derived.OpenShut
import Derived.Deep.OwnRows
import Derived.BigRegion
namespace Go.Proofs.YtbecnaabmlkjjabDoor
open Go.ChangeShapes Go.WideShapes Go.ChangeAt Go.RowKit
theorem numEq8 {k : IntKind} {a b : Int} (h : a = b) : Value.int k a = .int k b := by rw [h]
theorem Tryd.info8 : (Tryd.prog.info? 5).map (fun i => (i.zero, i.size, i.bytes)) = some (some (.int .u8 0), 1, 1) := by kernel_rfl
theorem mkBytes (n : Nat) (hn : n ≤ 10000000) (w : World) : (Instr.makeSlice 25 (.int .i64 (n : Int)) (.int .i64 (n : Int))).run Tryd.prog w = .ok (.slice (some ⟨w.heap.size, 0, none⟩) n n) (w.alloc (.cells (madeCells #[.int .u8 0] n) 5)) :=
  run_make_row' 25 5 (.int .u8 0) 1 Tryd.underlying25 Tryd.info8 rfl .i64 .i64 n (by omega) (by omega) w
theorem u8wrap (k : Nat) : IntKind.u8.wrap (k : Int) = ((k % 256 : Nat) : Int) := by
  show ((k : Int) % 256) = _
  omega
/-- laws.toByteS -/
theorem toByteS_any (a : Option Addr) (n c : Nat) (f : Nat → Nat) (w : World) (h : Code8 w a n f) (hn : n ≤ 1048576) :
    Calls Tryd.prog 13 #[.slice a n c] w fun e w' => e = .returned (.slice (some ⟨w.heap.size, 0, none⟩) n n) ∧ Own8 w' w.heap.size n f ∧ Below w.heap.size w w' := by
  have m1 := mkBytes n (by omega)
  rcases Nat.eq_zero_or_pos n with rfl | hpos
  · have m0 : ∀ w : World, (Instr.makeSlice 25 (.int .i64 0) (.int .i64 0)).run Tryd.prog w = .ok (.slice (some ⟨w.heap.size, 0, none⟩) 0 0) (w.alloc (.cells (madeCells #[.int .u8 0] 0) 5)) := mkBytes 0 (by omega)
    go_enter Tryd.func13, Tryd.ntmps13
    go_wp2
    go_loopw [4] (fun i wr => i = .int .i64 0 ∧ wr = w.alloc (.cells (madeCells #[.int .u8 0] 0) 5)) (fun _ _ => 0)
    case atStart => exact ⟨rfl, rfl⟩
    case round =>
      obtain ⟨rfl, rfl⟩ := hrel
      go_wp2
      go_ret
      exact ⟨rfl, Own8.ofRow ((World.rowIs_made w (.int .u8 0) 0 5).congr (fun j hj => by omega)), (Below.refl _ _).alloc (Nat.le_refl _) _⟩
  · obtain ⟨b, off, rfl, hc⟩ := h.opened hpos
    have HC : Hid (∀ i, i < n → w.cell? ⟨b, off + i, none⟩ = some (.int .u8 (f i : Nat))) := hc
    clear h hc
    go_enter Tryd.func13, Tryd.ntmps13
    go_wp2
    go_loopw [4] (fun i wr => ∃ k : Nat, k ≤ n ∧ i = .int .i64 k ∧ wr.rowIs w.heap.size 5 n (fun j => .int .u8 ((if j < k then f j else 0 : Nat) : Int)) ∧ Below w.heap.size w wr) (fun i _ => n - (intOf i).toNat)
    case atStart =>
      refine ⟨0, by omega, rfl, ?_, (Below.refl _ _).alloc (Nat.le_refl _) _⟩
      exact (World.rowIs_made w (.int .u8 0) n 5).congr (fun j hj => by simp)
    case round =>
      obtain ⟨k, hk, rfl, hrow, hb⟩ := hrel
      have HR : Hid (wr.rowIs w.heap.size 5 n (fun j => .int .u8 ((if j < k then f j else 0 : Nat) : Int))) := hrow
      have HB : Hid (Below w.heap.size w wr) := hb
      by_cases hlt : k < n
      · have c0 := HC.out k hlt
        have c1 : wr.cell? ⟨b, off + k, none⟩ = some (.int .u8 (f k : Nat)) := by rw [hb.cell (strBlock c0)]; exact c0
        have c2 := hrow.cell hlt
        have f2 := hrow.frozen k
        clear hrow hb c0
        go_wp2
        go_roundw
        case rel =>
          refine ⟨k + 1, by omega, by go_num, ?_, HB.out.setCell (by simp) _⟩
          exact (HR.out.set k _).congr (fun j hj => by
            by_cases e : j = k
            · subst e; simp
            · simp only [if_neg e]
              by_cases g : j < k
              · rw [if_pos g, if_pos (by omega)]
              · rw [if_neg g, if_neg (by omega)])
        case measure => simp [intOf]; omega
      · clear hrow hb
        go_wp2
        go_ret
        exact ⟨rfl, Own8.ofRow (HR.out.congr (fun j hj => numEq8 (by rw [if_pos (by omega)]))), HB.out⟩
/-- laws.eqByteS of two slices that read alike. -/
theorem eqByteS_yes (a b : Option Addr) (n c d : Nat) (f : Nat → Nat) (w : World) (h : Code8 w a n f) (h' : Code8 w b n f) (hn : n ≤ 1048576) :
    Calls Tryd.prog 9 #[.slice a n c, .slice b n d] w fun e w' => e = .returned (.bool true) ∧ ∃ q, w' = w.drewN q := by
  rcases Nat.eq_zero_or_pos n with rfl | hpos
  · go_enter Tryd.func9, Tryd.ntmps9
    go_wp2
    go_loopw [5] (fun i wr => i = .int .i64 0 ∧ wr = w) (fun _ _ => 0)
    case atStart => exact ⟨rfl, rfl⟩
    case round =>
      obtain ⟨rfl, rfl⟩ := hrel
      go_wp2
      go_ret
      exact ⟨rfl, 0, rfl⟩
  · obtain ⟨b1, o1, rfl, hc⟩ := h.opened hpos
    obtain ⟨b2, o2, rfl, hc'⟩ := h'.opened hpos
    have HC : Hid (∀ i, i < n → w.cell? ⟨b1, o1 + i, none⟩ = some (.int .u8 (f i : Nat))) := hc
    have HD : Hid (∀ i, i < n → w.cell? ⟨b2, o2 + i, none⟩ = some (.int .u8 (f i : Nat))) := hc'
    clear h h' hc hc'
    have hne : ((n : Int) != (n : Int)) = false := by simp
    go_enter Tryd.func9, Tryd.ntmps9
    go_wp2
    go_loopw [5] (fun i wr => ∃ k : Nat, k ≤ n ∧ i = .int .i64 k ∧ ∃ q, wr = w.drewN q) (fun i _ => n - (intOf i).toNat)
    case atStart => exact ⟨0, by omega, rfl, 0, rfl⟩
    case round =>
      obtain ⟨k, hk, rfl, q, rfl⟩ := hrel
      by_cases hlt : k < n
      · have c1 := HC.out k hlt
        have c2 := HD.out k hlt
        have hlt' : (k : Int) < (n : Int) := by omega
        have hself : ((f k : Int) != (f k : Int)) = false := by simp
        generalize f k = V at *
        go_wp2
        go_quiet (fail)
        go_wp2
        go_roundw
        case rel => exact ⟨k + 1, by omega, by go_num, _, by first | rfl | rw [World.drewN_drewN]⟩
        case measure => simp [intOf]; omega
      · go_wp2
        go_ret
        exact ⟨rfl, q, rfl⟩
/-- What a slice of bytes reads as when it has been marked. -/
def mk8 (i : Nat) : Nat := (i + 1) % 256
/-- laws.markByteS -/
theorem markByteS_any (a : Option Addr) (B n c : Nat) (f : Nat → Nat) (w : World) (h : OwnS w B a n f) (hn : n ≤ 1048576) :
    Calls Tryd.prog 10 #[.slice a n c, .int .i64 1] w fun e w' => e = .returned (.int .i64 ((n + 1 : Nat) : Int)) ∧ OwnS w' B a n mk8 ∧ (n = 0 → w' = w) ∧ ∀ x, a = some x → 0 < n → OnlyB x.block w w' := by
  rcases Nat.eq_zero_or_pos n with rfl | hpos
  · go_enter Tryd.func10, Tryd.ntmps10
    go_wp2
    go_loopw [1, 5] (fun k i wr => k = .int .i64 1 ∧ i = .int .i64 0 ∧ wr = w) (fun _ _ _ => 0)
    case atStart => exact ⟨rfl, rfl, rfl⟩
    case round =>
      obtain ⟨rfl, rfl, rfl⟩ := hrel
      go_wp2
      go_ret
      exact ⟨rfl, .inl rfl, fun _ => rfl, fun _ _ h => absurd h (by omega)⟩
  · rcases h with h | ⟨b, hB, rfl, hr⟩
    · omega
    have HR0 : Hid (Own8 w b n f) := hr
    clear hr
    go_enter Tryd.func10, Tryd.ntmps10
    go_wp2
    go_loopw [1, 5] (fun x i wr => ∃ k : Nat, k ≤ n ∧ i = .int .i64 k ∧ x = .int .i64 (k + 1 : Nat) ∧ Own8 wr b n (fun j => if j < k then mk8 j else f j) ∧ OnlyB b w wr) (fun _ i _ => n - (intOf i).toNat)
    case atStart => exact ⟨0, by omega, rfl, rfl, HR0.out.congr (fun j hj => by simp), OnlyB.refl _ _⟩
    case round =>
      obtain ⟨k, hk, rfl, rfl, hrow, hb⟩ := hrel
      have HR : Hid (Own8 wr b n (fun j => if j < k then mk8 j else f j)) := hrow
      have HB : Hid (OnlyB b w wr) := hb
      by_cases hlt : k < n
      · have c2 := hrow.cell hlt
        have f2 := hrow.frozen k
        have ew : ((k : Int) + 1) % 256 = ((mk8 k : Nat) : Int) := by unfold mk8; omega
        clear hrow hb
        generalize hM : mk8 k = M at *
        have HM : Hid (mk8 k = M) := hM
        clear hM
        go_wp2
        go_roundw
        case rel =>
          refine ⟨k + 1, by omega, by go_num, by go_num, ?_, HB.out.setCell k _⟩
          refine (HR.out.set k M).congr (fun j hj => ?_)
          by_cases e : j = k
          · subst e; rw [if_pos rfl, if_pos (by omega)]; exact HM.out.symm
          · rw [if_neg e]
            by_cases h1 : j < k
            · rw [if_pos h1, if_pos (by omega)]
            · rw [if_neg h1, if_neg (by omega)]
        case measure => simp [intOf]; omega
      · have e : k = n := by omega
        have E : Hid (k = n) := e
        clear hrow hb e
        go_wp2
        go_ret
        exact ⟨by rw [E.out]; rfl, .inr ⟨b, hB, rfl, HR.out.congr (fun j hj => by rw [if_pos (by have := E.out; omega)])⟩, fun h => absurd h (by omega), fun x hx _ => by cases hx; exact HB.out⟩
/-- laws.heldByteS of a slice that was marked. -/
theorem heldByteS_yes (a : Option Addr) (n c : Nat) (w : World) (h : Code8 w a n mk8) (hn : n ≤ 1048576) :
    Calls Tryd.prog 11 #[.slice a n c, .int .i64 1] w fun e w' => e = .returned (.int .i64 ((n + 1 : Nat) : Int)) ∧ ∃ q, w' = w.drewN q := by
  rcases Nat.eq_zero_or_pos n with rfl | hpos
  · go_enter Tryd.func11, Tryd.ntmps11
    go_wp2
    go_loopw [1, 5] (fun k i wr => k = .int .i64 1 ∧ i = .int .i64 0 ∧ wr = w) (fun _ _ _ => 0)
    case atStart => exact ⟨rfl, rfl, rfl⟩
    case round =>
      obtain ⟨rfl, rfl, rfl⟩ := hrel
      go_wp2
      go_ret
      exact ⟨rfl, 0, rfl⟩
  · obtain ⟨b, o, rfl, hc⟩ := h.opened hpos
    have HC : Hid (∀ i, i < n → w.cell? ⟨b, o + i, none⟩ = some (.int .u8 (mk8 i : Nat))) := hc
    clear h hc
    go_enter Tryd.func11, Tryd.ntmps11
    go_wp2
    go_loopw [1, 5] (fun x i wr => ∃ k : Nat, k ≤ n ∧ i = .int .i64 k ∧ x = .int .i64 (k + 1 : Nat) ∧ ∃ q, wr = w.drewN q) (fun _ i _ => n - (intOf i).toNat)
    case atStart => exact ⟨0, by omega, rfl, rfl, 0, rfl⟩
    case round =>
      obtain ⟨k, hk, rfl, rfl, q, rfl⟩ := hrel
      by_cases hlt : k < n
      · have c1 := HC.out k hlt
        have ew : ((k : Int) + 1) % 256 = ((mk8 k : Nat) : Int) := by unfold mk8; omega
        have hself : ((mk8 k : Int) != (mk8 k : Int)) = false := by simp
        generalize mk8 k = V at *
        go_wp2
        go_roundw
        case rel => exact ⟨k + 1, by omega, by go_num, by go_num, _, rfl⟩
        case measure => simp [intOf]; omega
      · have e : k = n := by omega
        have E : Hid (k = n) := e
        clear e
        go_wp2
        go_ret
        exact ⟨by rw [E.out]; rfl, q, rfl⟩
theorem markOwn (b n c : Nat) (f : Nat → Nat) (w : World) (h : Own8 w b n f) (hn : n ≤ 1048576) :
    Calls Tryd.prog 10 #[.slice (some ⟨b, 0, none⟩) n c, .int .i64 1] w fun e w' => e = .returned (.int .i64 ((n + 1 : Nat) : Int)) ∧ Own8 w' b n mk8 ∧ OnlyB b w w' := by
  refine (markByteS_any (some ⟨b, 0, none⟩) b n c f w (.inr ⟨b, Nat.le_refl _, rfl, h⟩) hn).mono ?_
  rintro e w' ⟨he, ho, h0, h1⟩
  rcases Nat.eq_zero_or_pos n with rfl | hpos
  · have := h0 rfl
    subst this
    exact ⟨he, h.congr (fun i hi => absurd hi (by omega)), OnlyB.refl _ _⟩
  · rcases ho with h | ⟨b', _, ha, hr⟩
    · omega
    · cases ha
      exact ⟨he, hr, h1 _ rfl hpos⟩
theorem markS (a : Option Addr) (B n c : Nat) (f : Nat → Nat) (w : World) (h : OwnS w B a n f) (hB : B ≤ w.heap.size) (hn : n ≤ 1048576) :
    Calls Tryd.prog 10 #[.slice a n c, .int .i64 1] w fun e w' => e = .returned (.int .i64 ((n + 1 : Nat) : Int)) ∧ OwnS w' B a n mk8 ∧ Below B w w' := by
  refine (markByteS_any a B n c f w h hn).mono ?_
  rintro e w' ⟨he, ho, h0, h1⟩
  rcases Nat.eq_zero_or_pos n with rfl | hpos
  · have := h0 rfl
    subst this
    exact ⟨he, ho, Below.refl _ _⟩
  · rcases ho with h | ⟨b', hb', rfl, hr⟩
    · omega
    · exact ⟨he, .inr ⟨b', hb', rfl, hr⟩, (h1 _ rfl hpos).toBelow hb' hB⟩
end Go.Proofs.YtbecnaabmlkjjabDoor

/-
  Words of 32 bits as the program counts with them; a word that is turned; four bytes as a word.
-/
namespace Go.Proofs.YtbecnaabmlkjjabDoor
open Go.ChangeShapes Go.WideShapes Go.ChangeAt Go.RowKit
theorem u32_or_nat (a b : Nat) : bits .or .u32 (a : Int) (b : Int) = ((Sha.orr a b : Nat) : Int) := by
  show (((BitVec.ofInt 32 (a : Int) ||| BitVec.ofInt 32 (b : Int)).toNat : Int) % 4294967296) = _
  rw [BitVec.toNat_or, BitVec.ofInt_natCast, BitVec.toNat_ofNat, BitVec.ofInt_natCast, BitVec.toNat_ofNat, ← Nat.or_mod_two_pow]
  unfold Sha.orr
  have : (a ||| b) % 2 ^ 32 < 2 ^ 32 := Nat.mod_lt _ (by decide)
  omega
theorem u32_and_nat (a b : Nat) : bits .and .u32 (a : Int) (b : Int) = ((Sha.an a b : Nat) : Int) := by
  show (((BitVec.ofInt 32 (a : Int) &&& BitVec.ofInt 32 (b : Int)).toNat : Int) % 4294967296) = _
  rw [BitVec.toNat_and, BitVec.ofInt_natCast, BitVec.toNat_ofNat, BitVec.ofInt_natCast, BitVec.toNat_ofNat, ← Nat.and_mod_two_pow]
  unfold Sha.an
  have : (a &&& b) % 2 ^ 32 < 2 ^ 32 := Nat.mod_lt _ (by decide)
  omega
theorem u32_xor_nat (a b : Nat) : bits .xor .u32 (a : Int) (b : Int) = ((Sha.xr a b : Nat) : Int) := by
  show (((BitVec.ofInt 32 (a : Int) ^^^ BitVec.ofInt 32 (b : Int)).toNat : Int) % 4294967296) = _
  rw [BitVec.toNat_xor, BitVec.ofInt_natCast, BitVec.toNat_ofNat, BitVec.ofInt_natCast, BitVec.toNat_ofNat, ← Nat.xor_mod_two_pow]
  unfold Sha.xr
  have : (a ^^^ b) % 2 ^ 32 < 2 ^ 32 := Nat.mod_lt _ (by decide)
  omega
theorem u32_add_nat (a b : Nat) : IntKind.u32.wrap ((a : Int) + (b : Int)) = ((Sha.ad a b : Nat) : Int) := by
  show ((a : Int) + (b : Int)) % 4294967296 = _
  unfold Sha.ad
  omega
/-- A word that is turned to the right by so many. -/
def Turns (n : Nat) : Prop := n = 2 ∨ n = 6 ∨ n = 7 ∨ n = 11 ∨ n = 13 ∨ n = 17 ∨ n = 18 ∨ n = 19 ∨ n = 22 ∨ n = 25
theorem rt_int (x n a b : Nat) (ha : 2 ^ n = a) (hb : 2 ^ (32 - n) = b) : bits .or .u32 ((x : Int) / (a : Int)) ((x : Int) * (b : Int) % 4294967296) = ((Sha.rt x n : Nat) : Int) := by
  subst ha hb
  unfold Sha.rt Sha.sr Sha.sl
  rw [← u32_or_nat]
  congr 1
theorem rt_intC (x n a b : Nat) (ha : 2 ^ n = a) (hb : 2 ^ (32 - n) = b) : bits .or .u32 ((x : Int) * (b : Int) % 4294967296) ((x : Int) / (a : Int)) = ((Sha.rt x n : Nat) : Int) := by
  subst ha hb
  unfold Sha.rt
  rw [Sha.orr_comm]
  unfold Sha.sr Sha.sl
  rw [← u32_or_nat]
  congr 1
theorem numRet {k : IntKind} {a b : Int} (h : a = b) : Ending.returned (.int k a) = .returned (.int k b) := by rw [h]
set_option maxRecDepth 100000 in
theorem l03Turn_any (x n : Nat) (hn : Turns n) (w : World) :
    Calls Tryd.prog 87 #[.int .u32 (x : Int), .int .u64 (n : Int)] w fun e w' => e = .returned (.int .u32 ((Sha.rt x n : Nat) : Int)) ∧ w = w' := by
  rcases hn with rfl | rfl | rfl | rfl | rfl | rfl | rfl | rfl | rfl | rfl
  · have E : Hid (_ = _) := rt_int x 2 4 1073741824 (by decide) (by decide)
    go_enter Tryd.func87, Tryd.ntmps87
    go_wp2
    go_ret
    exact ⟨numRet E.out, rfl⟩
  · have E : Hid (_ = _) := rt_int x 6 64 67108864 (by decide) (by decide)
    go_enter Tryd.func87, Tryd.ntmps87
    go_wp2
    go_ret
    exact ⟨numRet E.out, rfl⟩
  · have E : Hid (_ = _) := rt_int x 7 128 33554432 (by decide) (by decide)
    go_enter Tryd.func87, Tryd.ntmps87
    go_wp2
    go_ret
    exact ⟨numRet E.out, rfl⟩
  · have E : Hid (_ = _) := rt_int x 11 2048 2097152 (by decide) (by decide)
    go_enter Tryd.func87, Tryd.ntmps87
    go_wp2
    go_ret
    exact ⟨numRet E.out, rfl⟩
  · have E : Hid (_ = _) := rt_int x 13 8192 524288 (by decide) (by decide)
    go_enter Tryd.func87, Tryd.ntmps87
    go_wp2
    go_ret
    exact ⟨numRet E.out, rfl⟩
  · have E : Hid (_ = _) := rt_int x 17 131072 32768 (by decide) (by decide)
    go_enter Tryd.func87, Tryd.ntmps87
    go_wp2
    go_ret
    exact ⟨numRet E.out, rfl⟩
  · have E : Hid (_ = _) := rt_int x 18 262144 16384 (by decide) (by decide)
    go_enter Tryd.func87, Tryd.ntmps87
    go_wp2
    go_ret
    exact ⟨numRet E.out, rfl⟩
  · have E : Hid (_ = _) := rt_int x 19 524288 8192 (by decide) (by decide)
    go_enter Tryd.func87, Tryd.ntmps87
    go_wp2
    go_ret
    exact ⟨numRet E.out, rfl⟩
  · have E : Hid (_ = _) := rt_int x 22 4194304 1024 (by decide) (by decide)
    go_enter Tryd.func87, Tryd.ntmps87
    go_wp2
    go_ret
    exact ⟨numRet E.out, rfl⟩
  · have E : Hid (_ = _) := rt_int x 25 33554432 128 (by decide) (by decide)
    go_enter Tryd.func87, Tryd.ntmps87
    go_wp2
    go_ret
    exact ⟨numRet E.out, rfl⟩
set_option maxRecDepth 100000 in
theorem rotl_any (x n : Nat) (hn : Turns n) (w : World) :
    Calls Tryd.prog 96 #[.int .u32 (x : Int), .int .i64 (-(n : Int))] w fun e w' => e = .returned (.int .u32 ((Sha.rt x n : Nat) : Int)) ∧ w = w' := by
  rcases hn with rfl | rfl | rfl | rfl | rfl | rfl | rfl | rfl | rfl | rfl
  · have q1 : bits .and .u64 (IntKind.u64.wrap (-((2 : Nat) : Int))) 31 = 30 := by decide
    have q2 : bits .and .u64 (IntKind.u64.wrap (-2)) 31 = 30 := by decide
    have E : Hid (_ = _) := rt_intC x 2 4 1073741824 (by decide) (by decide)
    go_enter Tryd.func96, Tryd.ntmps96
    go_wp2
    go_ret
    exact ⟨numRet E.out, rfl⟩
  · have q1 : bits .and .u64 (IntKind.u64.wrap (-((6 : Nat) : Int))) 31 = 26 := by decide
    have q2 : bits .and .u64 (IntKind.u64.wrap (-6)) 31 = 26 := by decide
    have E : Hid (_ = _) := rt_intC x 6 64 67108864 (by decide) (by decide)
    go_enter Tryd.func96, Tryd.ntmps96
    go_wp2
    go_ret
    exact ⟨numRet E.out, rfl⟩
  · have q1 : bits .and .u64 (IntKind.u64.wrap (-((7 : Nat) : Int))) 31 = 25 := by decide
    have q2 : bits .and .u64 (IntKind.u64.wrap (-7)) 31 = 25 := by decide
    have E : Hid (_ = _) := rt_intC x 7 128 33554432 (by decide) (by decide)
    go_enter Tryd.func96, Tryd.ntmps96
    go_wp2
    go_ret
    exact ⟨numRet E.out, rfl⟩
  · have q1 : bits .and .u64 (IntKind.u64.wrap (-((11 : Nat) : Int))) 31 = 21 := by decide
    have q2 : bits .and .u64 (IntKind.u64.wrap (-11)) 31 = 21 := by decide
    have E : Hid (_ = _) := rt_intC x 11 2048 2097152 (by decide) (by decide)
    go_enter Tryd.func96, Tryd.ntmps96
    go_wp2
    go_ret
    exact ⟨numRet E.out, rfl⟩
  · have q1 : bits .and .u64 (IntKind.u64.wrap (-((13 : Nat) : Int))) 31 = 19 := by decide
    have q2 : bits .and .u64 (IntKind.u64.wrap (-13)) 31 = 19 := by decide
    have E : Hid (_ = _) := rt_intC x 13 8192 524288 (by decide) (by decide)
    go_enter Tryd.func96, Tryd.ntmps96
    go_wp2
    go_ret
    exact ⟨numRet E.out, rfl⟩
  · have q1 : bits .and .u64 (IntKind.u64.wrap (-((17 : Nat) : Int))) 31 = 15 := by decide
    have q2 : bits .and .u64 (IntKind.u64.wrap (-17)) 31 = 15 := by decide
    have E : Hid (_ = _) := rt_intC x 17 131072 32768 (by decide) (by decide)
    go_enter Tryd.func96, Tryd.ntmps96
    go_wp2
    go_ret
    exact ⟨numRet E.out, rfl⟩
  · have q1 : bits .and .u64 (IntKind.u64.wrap (-((18 : Nat) : Int))) 31 = 14 := by decide
    have q2 : bits .and .u64 (IntKind.u64.wrap (-18)) 31 = 14 := by decide
    have E : Hid (_ = _) := rt_intC x 18 262144 16384 (by decide) (by decide)
    go_enter Tryd.func96, Tryd.ntmps96
    go_wp2
    go_ret
    exact ⟨numRet E.out, rfl⟩
  · have q1 : bits .and .u64 (IntKind.u64.wrap (-((19 : Nat) : Int))) 31 = 13 := by decide
    have q2 : bits .and .u64 (IntKind.u64.wrap (-19)) 31 = 13 := by decide
    have E : Hid (_ = _) := rt_intC x 19 524288 8192 (by decide) (by decide)
    go_enter Tryd.func96, Tryd.ntmps96
    go_wp2
    go_ret
    exact ⟨numRet E.out, rfl⟩
  · have q1 : bits .and .u64 (IntKind.u64.wrap (-((22 : Nat) : Int))) 31 = 10 := by decide
    have q2 : bits .and .u64 (IntKind.u64.wrap (-22)) 31 = 10 := by decide
    have E : Hid (_ = _) := rt_intC x 22 4194304 1024 (by decide) (by decide)
    go_enter Tryd.func96, Tryd.ntmps96
    go_wp2
    go_ret
    exact ⟨numRet E.out, rfl⟩
  · have q1 : bits .and .u64 (IntKind.u64.wrap (-((25 : Nat) : Int))) 31 = 7 := by decide
    have q2 : bits .and .u64 (IntKind.u64.wrap (-25)) 31 = 7 := by decide
    have E : Hid (_ = _) := rt_intC x 25 33554432 128 (by decide) (by decide)
    go_enter Tryd.func96, Tryd.ntmps96
    go_wp2
    go_ret
    exact ⟨numRet E.out, rfl⟩
set_option maxRecDepth 100000 in
theorem turned_any (x n : Nat) (hn : Turns n) (w : World) :
    Calls Tryd.prog 89 #[.int .u32 (x : Int), .int .i64 (n : Int)] w fun e w' => e = .returned (.int .u32 ((Sha.rt x n : Nat) : Int)) ∧ w = w' := by
  have RL : Hid (∀ w : World, Calls Tryd.prog 96 #[.int .u32 (x : Int), .int .i64 (-(n : Int))] w fun e w' => e = .returned (.int .u32 ((Sha.rt x n : Nat) : Int)) ∧ w = w') := rotl_any x n hn
  have hn' : n ≤ 25 := by unfold Turns at hn; omega
  clear hn
  generalize Sha.rt x n = R at *
  go_enter Tryd.func89, Tryd.ntmps89
  go_wp2_with fail
  refine (RL.out _).mono ?_
  rintro e w' ⟨rfl, rfl⟩
  go_wp2
  go_ret
  exact ⟨rfl, rfl⟩
end Go.Proofs.YtbecnaabmlkjjabDoor

/-
  Arrays of words of 32 bits as values and as rows of memory: plain laws, as of bytes.
-/
namespace Go.Proofs.YtbecnaabmlkjjabDoor
open Go.ChangeShapes Go.WideShapes Go.ChangeAt Go.RowKit
/-- n words as cells. -/
def wv (n : Nat) (f : Nat → Nat) : List Value := (List.range n).map fun i => .int .u32 (f i : Nat)
/-- n words as the value of an array. -/
def wA (n : Nat) (f : Nat → Nat) : Array Value := (wv n f).toArray
theorem wv_length (n : Nat) (f : Nat → Nat) : (wv n f).length = n := by simp [wv]
theorem wA_size (n : Nat) (f : Nat → Nat) : (wA n f).size = n := by simp [wA, wv]
theorem wA_toList (n : Nat) (f : Nat → Nat) : (wA n f).toList = wv n f := by simp [wA]
theorem wv_at {n : Nat} {f : Nat → Nat} {k : Nat} (h : k < n) : (wv n f)[k]? = some (.int .u32 (f k : Nat)) := by simp [wv, h]
theorem wA_at {n : Nat} {f : Nat → Nat} {k : Nat} (h : k < n) : (wA n f)[k]? = some (.int .u32 (f k : Nat)) := by rw [wA, List.getElem?_toArray]; exact wv_at h
theorem wv_congr {n : Nat} {f g : Nat → Nat} (h : ∀ i, i < n → f i = g i) : wv n f = wv n g := by
  unfold wv
  exact List.map_congr_left (fun i hi => by rw [h i (List.mem_range.1 hi)])
theorem wA_congr {n : Nat} {f g : Nat → Nat} (h : ∀ i, i < n → f i = g i) : wA n f = wA n g := by rw [wA, wv_congr h, wA]
theorem wA_one (n : Nat) (f : Nat → Nat) : (wA n f).all (·.oneCell') = true := all_oneCell_toArray (fun v hv => by
  obtain ⟨i, _, rfl⟩ := List.mem_map.1 hv
  rfl)
/-- The row in block b holds n words. -/
def RowW (w : World) (b : Nat) (t : TypeId) (n : Nat) (f : Nat → Nat) : Prop := w.rowIs b t n (fun i => .int .u32 (f i : Nat))
theorem RowW.range {w : World} {b n : Nat} {t : TypeId} {f : Nat → Nat} (h : RowW w b t n f) : w.rangeAt b 0 (wv n f) := fun j v hv => by
  have hj : j < n := by have := (List.getElem?_eq_some_iff.1 hv).1; rwa [wv_length] at this
  rw [wv_at hj] at hv
  cases hv
  rw [Nat.zero_add]
  exact h.cell hj
theorem RowW.there {w : World} {b n : Nat} {t : TypeId} {f : Nat → Nat} (h : RowW w b t n f) : w.there b 0 n := fun j hj => by
  rw [Nat.zero_add, h.cell hj, h.frozen j]
  exact ⟨rfl, rfl⟩
theorem RowW.boxed (w : World) (t : TypeId) (n : Nat) (f : Nat → Nat) : RowW (w.alloc (.cells (wA n f) t)) w.heap.size t n f := by
  have := World.rowIs_alloc w (wA n f) t (fun i => .int .u32 (f i : Nat)) (fun i hi => wA_at (by rwa [wA_size] at hi))
  rw [wA_size] at this
  exact this
theorem RowW.zeros (w : World) (t : TypeId) (n : Nat) : RowW (w.alloc (.cells (Array.replicate n (.int .u32 0)) t)) w.heap.size t n (fun _ => 0) := by
  have := World.rowIs_alloc w (Array.replicate n (.int .u32 0)) t (fun _ => .int .u32 ((0 : Nat) : Int)) (fun i hi => by
    have hi' : i < n := by simpa using hi
    simp [hi'])
  rw [Array.size_replicate] at this
  exact this
theorem RowW.set {w : World} {b n : Nat} {t : TypeId} {f : Nat → Nat} (h : RowW w b t n f) (i v : Nat) : RowW (w.setCell ⟨b, i, none⟩ (.int .u32 (v : Nat))) b t n (fun j => if j = i then v else f j) :=
  (World.rowIs.set h i _).congr (fun j _ => by by_cases e : j = i <;> simp [e])
theorem RowW.congr {w : World} {b n : Nat} {t : TypeId} {f g : Nat → Nat} (h : RowW w b t n f) (e : ∀ i, i < n → f i = g i) : RowW w b t n g := World.rowIs.congr h (fun i hi => by rw [e i hi])
theorem RowW.below {w w' : World} {b n : Nat} {t : TypeId} {f : Nat → Nat} (h : RowW w b t n f) (hb : Below w.heap.size w w') : RowW w' b t n f := World.rowIs.of_block h (hb.block b h.lt)
theorem RowW.other {w : World} {b n : Nat} {t : TypeId} {f : Nat → Nat} (h : RowW w b t n f) {a : Addr} (ha : b ≠ a.block) (v : Value) : RowW (w.setCell a v) b t n f := World.rowIs.setOther h ha v
theorem RowW.alloc {w : World} {b n : Nat} {t : TypeId} {f : Nat → Nat} (h : RowW w b t n f) (o : Obj) : RowW (w.alloc o) b t n f := World.rowIs.alloc h o
theorem RowW.drewN {w : World} {b n : Nat} {t : TypeId} {f : Nat → Nat} (h : RowW w b t n f) (q : Nat) : RowW (w.drewN q) b t n f := h
theorem RowW.stored {w : World} {b n : Nat} {t : TypeId} {f : Nat → Nat} (h : RowW w b t n f) (g : Nat → Nat) : RowW (w.setCells b 0 (wv n g)) b t n g :=
  (rowIs_setCells (wv n g) 0 w _ h).congr (fun i hi => by
    rw [if_pos (by rw [wv_length]; omega), Nat.sub_zero, List.getD_eq_getElem?_getD, wv_at hi]; rfl)
theorem RowW.storedOther {w : World} {b b' n : Nat} {t : TypeId} {f : Nat → Nat} (h : RowW w b' t n f) (hne : b' ≠ b) (o : Nat) (vs : List Value) : RowW (w.setCells b o vs) b' t n f := rowIs_setCells_other hne vs o w h
theorem RowW.load {P : Program} {w : World} {b n : Nat} {t : TypeId} {f : Nat → Nat} (h : RowW w b t n f) {d : TypeDesc} (hu : P.underlying t = some d) (hd : d.isRow = true) (hi : (P.info? t).map (·.size) = some n) : (loadVar t ⟨b, 0, none⟩).run P w = .ok (.agg (wA n f)) w :=
  run_loadVar_mid w b 0 t (wv n f) d h.range hu hd (by rw [wv_length]; exact hi)
theorem RowW.boxedAt {w : World} {b : Nat} (hb : w.heap.size = b) (t : TypeId) (n : Nat) (f : Nat → Nat) : RowW (w.alloc (.cells (wA n f) t)) b t n f := by subst hb; exact RowW.boxed w t n f
theorem RowW.zerosAt {w : World} {b : Nat} (hb : w.heap.size = b) (t : TypeId) (n : Nat) : RowW (w.alloc (.cells (Array.replicate n (.int .u32 0)) t)) b t n (fun _ => 0) := by subst hb; exact RowW.zeros w t n
theorem RowW.onlyB {w w' : World} {b c n : Nat} {t : TypeId} {f : Nat → Nat} (h : RowW w b t n f) (ho : OnlyB c w w') (hne : b ≠ c) : RowW w' b t n f := World.rowIs.of_block h (ho.block b h.lt hne)
end Go.Proofs.YtbecnaabmlkjjabDoor
