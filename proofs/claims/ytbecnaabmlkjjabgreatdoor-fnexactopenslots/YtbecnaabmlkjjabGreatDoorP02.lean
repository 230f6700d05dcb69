/-
  Texts of the proof, joined: Code8, ByteS, Words, WRows.
-/
import Derived.Test.YtbecnaabmlkjjabGreatDoorP01
import Derived.Laws.OwnMore
import Derived.OpenShut
import Derived.Deep.OwnRows
import Derived.BigRegion
namespace Go.Proofs.YtbecnaabmlkjjabGreatDoor
open Go.ChangeShapes Go.WideShapes Go.ChangeAt Go.RowKit
/-- The bytes behind a slice. -/
def Code8 (w : World) (a : Option Addr) (len : Nat) (z : Nat → Nat) : Prop := ∀ i, i < len → ∃ cb off, a = some ⟨cb, off, none⟩ ∧ w.cell? ⟨cb, off + i, none⟩ = some (.int .u8 (z i : Nat))
theorem Code8.opened {w : World} {a : Option Addr} {n : Nat} {f : Nat → Nat} (h : Code8 w a n f) (hn : 0 < n) :
    ∃ b off, a = some ⟨b, off, none⟩ ∧ ∀ i, i < n → w.cell? ⟨b, off + i, none⟩ = some (.int .u8 (f i : Nat)) := by
  obtain ⟨b, off, rfl, _⟩ := h 0 hn
  refine ⟨b, off, rfl, fun i hi => ?_⟩
  obtain ⟨b', off', hab, hc⟩ := h i hi
  cases hab
  exact hc
theorem Code8.below {w w' : World} {a : Option Addr} {n : Nat} {f : Nat → Nat} (h : Code8 w a n f) (hb : Below w.heap.size w w') : Code8 w' a n f := fun i hi => by
  obtain ⟨b, off, ha, hc⟩ := h i hi
  exact ⟨b, off, ha, by rw [hb.cell (strBlock hc)]; exact hc⟩
theorem Code8.onlyB {w w' : World} {a : Option Addr} {n b : Nat} {f : Nat → Nat} (h : Code8 w a n f) (ho : OnlyB b w w') (hs : ∀ x, 0 < n → a = some x → x.block ≠ b) : Code8 w' a n f := fun i hi => by
  obtain ⟨cb, off, ha, hc⟩ := h i hi
  exact ⟨cb, off, ha, by rw [World.cell?_of_block (w := w) (ho.block cb (strBlock hc) (hs _ (by omega) ha))]; exact hc⟩
theorem Code8.drewN {w : World} {a : Option Addr} {n : Nat} {f : Nat → Nat} (h : Code8 w a n f) (q : Nat) : Code8 (w.drewN q) a n f := fun i hi => by
  obtain ⟨b, off, ha, hc⟩ := h i hi
  exact ⟨b, off, ha, by rw [World.cell?_drewN]; exact hc⟩
theorem Code8.congr {w : World} {a : Option Addr} {n : Nat} {f g : Nat → Nat} (h : Code8 w a n f) (e : ∀ i, i < n → f i = g i) : Code8 w a n g := fun i hi => by
  obtain ⟨b, off, ha, hc⟩ := h i hi
  exact ⟨b, off, ha, by rw [← e i hi]; exact hc⟩
theorem Code8.part {w : World} {a : Option Addr} {n m : Nat} {f : Nat → Nat} (h : Code8 w a n f) (hm : m ≤ n) : Code8 w a m f := fun i hi => h i (by omega)
theorem code8_zero (w : World) (a : Option Addr) (f : Nat → Nat) : Code8 w a 0 f := fun i hi => absurd hi (by omega)
theorem Code8.lt {w : World} {a : Option Addr} {n : Nat} {f : Nat → Nat} (h : Code8 w a n f) : ∀ x, 0 < n → a = some x → x.block < w.heap.size := fun x h0 hx => by
  obtain ⟨cb, off, ha, hh⟩ := h 0 h0
  rw [ha] at hx
  cases hx
  exact strBlock hh
theorem Code8.shift {w : World} {b off n : Nat} {f : Nat → Nat} (h : Code8 w (some ⟨b, off, none⟩) n f) (k : Nat) : Code8 w (some ⟨b, off + k, none⟩) (n - k) (fun i => f (k + i)) := fun i hi => by
  obtain ⟨b', off', ha, hc⟩ := h (k + i) (by omega)
  cases ha
  exact ⟨b, off + k, rfl, by rw [Nat.add_assoc]; exact hc⟩
/-- Block b is a row of bytes that may be written, of at least n, that reads as f from its head on. -/
def Own8 (w : World) (b n : Nat) (f : Nat → Nat) : Prop := ∃ (m : Nat) (g : Nat → Value), n ≤ m ∧ w.rowIs b 5 m g ∧ ∀ i, i < n → g i = .int .u8 (f i : Nat)
theorem Own8.cell {w : World} {b n : Nat} {f : Nat → Nat} (h : Own8 w b n f) {i : Nat} (hi : i < n) : w.cell? ⟨b, i, none⟩ = some (.int .u8 (f i : Nat)) := by
  obtain ⟨m, g, hm, hr, hg⟩ := h
  rw [hr.cell (by omega), hg i hi]
theorem Own8.frozen {w : World} {b n : Nat} {f : Nat → Nat} (h : Own8 w b n f) (i : Nat) : w.frozen? ⟨b, i, none⟩ = false := by
  obtain ⟨m, g, hm, hr, hg⟩ := h
  exact hr.frozen i
theorem Own8.lt {w : World} {b n : Nat} {f : Nat → Nat} (h : Own8 w b n f) : b < w.heap.size := by
  obtain ⟨m, g, hm, hr, hg⟩ := h
  exact hr.lt
theorem Own8.congr {w : World} {b n : Nat} {f f' : Nat → Nat} (h : Own8 w b n f) (e : ∀ i, i < n → f i = f' i) : Own8 w b n f' := by
  obtain ⟨m, g, hm, hr, hg⟩ := h
  exact ⟨m, g, hm, hr, fun i hi => by rw [hg i hi, e i hi]⟩
theorem Own8.part {w : World} {b n n' : Nat} {f : Nat → Nat} (h : Own8 w b n f) (hn : n' ≤ n) : Own8 w b n' f := by
  obtain ⟨m, g, hm, hr, hg⟩ := h
  exact ⟨m, g, by omega, hr, fun i hi => hg i (by omega)⟩
theorem Own8.set {w : World} {b n : Nat} {f : Nat → Nat} (h : Own8 w b n f) (i v : Nat) : Own8 (w.setCell ⟨b, i, none⟩ (.int .u8 (v : Nat))) b n (fun j => if j = i then v else f j) := by
  obtain ⟨m, g, hm, hr, hg⟩ := h
  refine ⟨m, _, hm, hr.set i _, fun j hj => ?_⟩
  by_cases e : j = i
  · simp [e]
  · simp [e, hg j hj]
theorem Own8.other {w : World} {b n : Nat} {f : Nat → Nat} (h : Own8 w b n f) {a : Addr} (ha : b ≠ a.block) (v : Value) : Own8 (w.setCell a v) b n f := by
  obtain ⟨m, g, hm, hr, hg⟩ := h
  exact ⟨m, g, hm, hr.setOther ha v, hg⟩
theorem Own8.of_block {w w' : World} {b n : Nat} {f : Nat → Nat} (h : Own8 w b n f) (e : w'.heap[b]? = w.heap[b]?) : Own8 w' b n f := by
  obtain ⟨m, g, hm, hr, hg⟩ := h
  exact ⟨m, g, hm, hr.of_block e, hg⟩
theorem Own8.alloc {w : World} {b n : Nat} {f : Nat → Nat} (h : Own8 w b n f) (o : Obj) : Own8 (w.alloc o) b n f := by
  obtain ⟨m, g, hm, hr, hg⟩ := h
  exact ⟨m, g, hm, hr.alloc o, hg⟩
theorem Own8.below {w w' : World} {b n : Nat} {f : Nat → Nat} (h : Own8 w b n f) (hb : Below w.heap.size w w') : Own8 w' b n f := h.of_block (hb.block b h.lt)
theorem Own8.onlyB {w w' : World} {b c n : Nat} {f : Nat → Nat} (h : Own8 w b n f) (ho : OnlyB c w w') (hne : b ≠ c) : Own8 w' b n f := h.of_block (ho.block b h.lt hne)
theorem Own8.drewN {w : World} {b n : Nat} {f : Nat → Nat} (h : Own8 w b n f) (q : Nat) : Own8 (w.drewN q) b n f := h
theorem Own8.code {w : World} {b n : Nat} {f : Nat → Nat} (h : Own8 w b n f) : Code8 w (some ⟨b, 0, none⟩) n f := fun i hi => ⟨b, 0, rfl, by rw [Nat.zero_add]; exact h.cell hi⟩
theorem Own8.ofRow {w : World} {b n : Nat} {f : Nat → Nat} (h : w.rowIs b 5 n (fun i => .int .u8 (f i : Nat))) : Own8 w b n f := ⟨n, _, Nat.le_refl _, h, fun _ _ => rfl⟩
/-- n bytes as the cells of a list. -/
theorem own8_of_owned {w : World} {base : Nat} {v : Value} {n : Nat} {f : Nat → Nat} (h : w.ownsRow base 5 1 v n (bv n f)) (hn : 0 < n) :
    ∃ b cap, (base ≤ b ∧ n ≤ cap) ∧ v = .slice (some ⟨b, 0, none⟩) n cap ∧ Own8 w b n f := by
  obtain ⟨hl, ⟨rfl, rfl⟩ | ⟨g, cap, cur, rfl, hb, hh, hn', hm, hs, ht⟩⟩ := h
  · omega
  · refine ⟨g, cap, ⟨hb, hn'⟩, rfl, cap, fun i => cur.getD i undef, hn', ⟨cur, hh, by omega, fun i hi => ?_⟩, fun i hi => ?_⟩
    · have : i < cur.size := by omega
      simp [Array.getD, this]
    · have h1 : (cur.toList.take (n * 1))[i]? = some (.int .u8 (f i : Nat)) := by rw [ht]; exact bv_at hi
      rw [List.getElem?_take, if_pos (by omega), Array.getElem?_toList] at h1
      simp [Array.getD_eq_getD_getElem?, h1]
theorem Code8.at {w : World} {b o n : Nat} {f : Nat → Nat} (h : Code8 w (some ⟨b, o, none⟩) n f) {i : Nat} (hi : i < n) : w.cell? ⟨b, o + i, none⟩ = some (.int .u8 (f i : Nat)) := by
  obtain ⟨b', o', ha, hc⟩ := h i hi
  cases ha
  exact hc
theorem code8_of {w : World} {b o n : Nat} {f : Nat → Nat} (h : ∀ i, i < n → w.cell? ⟨b, o + i, none⟩ = some (.int .u8 (f i : Nat))) : Code8 w (some ⟨b, o, none⟩) n f := fun i hi => ⟨b, o, rfl, h i hi⟩
theorem bv_news {w : World} {b o n : Nat} {f : Nat → Nat} (h : Code8 w (some ⟨b, o, none⟩) n f) : ∀ j u, (bv n f)[j]? = some u → w.cell? ((⟨b, o, none⟩ : Addr).add j) = some u := fun j u hu => by
  have hj : j < n := by have := (List.getElem?_eq_some_iff.1 hu).1; rwa [bv_length] at this
  rw [bv_at hj] at hu
  cases hu
  rw [Addr.add_lit]
  exact h.at hj
theorem bv_one (n : Nat) (f : Nat → Nat) : ∀ u ∈ bv n f, u.oneCell' = true := fun u hu => by
  obtain ⟨i, _, rfl⟩ := List.mem_map.1 hu
  rfl
theorem bv_append (n m : Nat) (f g : Nat → Nat) : bv n f ++ bv m g = bv (n + m) (fun i => if i < n then f i else g (i - n)) := by
  apply List.ext_getElem?
  intro i
  by_cases h : i < n
  · rw [List.getElem?_append_left (by rw [bv_length]; exact h), bv_at h, bv_at (by omega), if_pos h]
  · rw [List.getElem?_append_right (by rw [bv_length]; omega), bv_length]
    by_cases h2 : i < n + m
    · rw [bv_at (by omega), bv_at h2, if_neg h]
    · rw [List.getElem?_eq_none (by rw [bv_length]; omega), List.getElem?_eq_none (by rw [bv_length]; omega)]
theorem bv_zero (f : Nat → Nat) : bv 0 f = [] := rfl
theorem bv_snoc (n : Nat) (f : Nat → Nat) : bv n f ++ [.int .u8 (f n : Nat)] = bv (n + 1) f := by
  unfold bv
  rw [List.range_succ, List.map_append]
  rfl
theorem own8_of_own {w : World} {base : Nat} {v : Value} {n : Nat} {f : Nat → Nat} (h : w.ownsRow base 5 1 v n (bv n f)) (hv : v ≠ .slice none 0 0) :
    ∃ b cap, (base ≤ b ∧ n ≤ cap) ∧ v = .slice (some ⟨b, 0, none⟩) n cap ∧ Own8 w b n f := by
  rcases Nat.eq_zero_or_pos n with rfl | hn
  · obtain ⟨hl, ⟨rfl, _⟩ | ⟨g, cap, cur, rfl, hb, hh, hn', hm, hs, ht⟩⟩ := h
    · exact absurd rfl hv
    · exact ⟨g, cap, ⟨hb, hn'⟩, rfl, cap, fun i => cur.getD i undef, hn', ⟨cur, hh, by omega, fun i hi => by
        have : i < cur.size := by omega
        simp [Array.getD, this]⟩, fun i hi => absurd hi (by omega)⟩
  · exact own8_of_owned h hn
theorem ownsRow_below8 {w w' : World} {base : Nat} {e : TypeId} {size : Nat} {v : Value} {n : Nat} {xs : List Value} (h : w.ownsRow base e size v n xs) (hb : Below w.heap.size w w') : w'.ownsRow base e size v n xs := by
  obtain ⟨hl, h0 | ⟨g, cap, cur, hv, h1, hh, h2⟩⟩ := h
  · exact ⟨hl, .inl h0⟩
  · refine ⟨hl, .inr ⟨g, cap, cur, hv, h1, ?_, h2⟩⟩
    rw [hb.block g ?_]
    · exact hh
    · rcases Nat.lt_or_ge g w.heap.size with k | k
      · exact k
      · rw [Array.getElem?_eq_none k] at hh; cases hh
/-- What an append of the call's own leaves as it was: all below the row's own first block. -/
theorem grown_below {w w' : World} {base : Nat} {e : TypeId} {size : Nat} {v : Value} {n : Nat} {xs : List Value} (h : w.ownsRow base e size v n xs) (hg : w.grownBy w' v.ownBlock) (hb : base ≤ w.heap.size) : Below base w w' :=
  (Below.refl base w).grown hg hb (fun k hk => (h.lt k hk).1)
/-- A slice elsewhere than the row that was appended to. -/
theorem Code8.grown {w w' : World} {row : Option Nat} {b o n : Nat} {f : Nat → Nat} (h : Code8 w (some ⟨b, o, none⟩) n f) (hg : w.grownBy w' row) (hne : some b ≠ row) : Code8 w' (some ⟨b, o, none⟩) n f :=
  code8_of (fun i hi => by
    have hc := h.at hi
    rw [World.cell?_of_block (w := w) (hg.block b (strBlock hc) hne)]; exact hc)
theorem Code8.belowAt {w w' : World} {B b o n : Nat} {f : Nat → Nat} (h : Code8 w (some ⟨b, o, none⟩) n f) (hb : Below B w w') (hB : b < B) : Code8 w' (some ⟨b, o, none⟩) n f :=
  code8_of (fun i hi => by rw [hb.cell (p := ⟨b, o + i, none⟩) hB]; exact h.at hi)
theorem Code8.belowO {w w' : World} {B : Nat} {a : Option Addr} {n : Nat} {f : Nat → Nat} (h : Code8 w a n f) (hb : Below B w w') (hlt : ∀ x, 0 < n → a = some x → x.block < B) : Code8 w' a n f := fun i hi => by
  obtain ⟨b, off, ha, hc⟩ := h i hi
  have hbB : b < B := hlt ⟨b, off, none⟩ (by omega) ha
  exact ⟨b, off, ha, by rw [hb.cell (p := ⟨b, off + i, none⟩) hbB]; exact hc⟩
theorem below_drewN8 {B : Nat} {w w' : World} (h : Below B w w') (q : Nat) : Below B w (w'.drewN q) := ⟨h.os, h.tape, h.output, h.size, h.block⟩
end Go.Proofs.YtbecnaabmlkjjabGreatDoor
namespace Go.Proofs.YtbecnaabmlkjjabGreatDoor
open Go.ChangeShapes Go.WideShapes Go.ChangeAt Go.RowKit
theorem numEq8 {k : IntKind} {a b : Int} (h : a = b) : Value.int k a = .int k b := by rw [h]
theorem Tryz.info8 : (Tryz.prog.info? 5).map (fun i => (i.zero, i.size, i.bytes)) = some (some (.int .u8 0), 1, 1) := by kernel_rfl
theorem mkBytes (n : Nat) (hn : n ≤ 10000000) (w : World) : (Instr.makeSlice 88 (.int .i64 (n : Int)) (.int .i64 (n : Int))).run Tryz.prog w = .ok (.slice (some ⟨w.heap.size, 0, none⟩) n n) (w.alloc (.cells (madeCells #[.int .u8 0] n) 5)) :=
  run_make_row' 88 5 (.int .u8 0) 1 Tryz.underlying88 Tryz.info8 rfl .i64 .i64 n (by omega) (by omega) w
end Go.Proofs.YtbecnaabmlkjjabGreatDoor
namespace Go.Proofs.YtbecnaabmlkjjabGreatDoor
open Go.ChangeShapes Go.WideShapes Go.ChangeAt Go.RowKit
theorem u32_or_nat (a b : Nat) : bits .or .u32 (a : Int) (b : Int) = ((Sha.orr a b : Nat) : Int) := by
  show (((BitVec.ofInt 32 (a : Int) ||| BitVec.ofInt 32 (b : Int)).toNat : Int) % 4294967296) = _
  rw [BitVec.toNat_or, BitVec.ofInt_natCast, BitVec.toNat_ofNat, BitVec.ofInt_natCast, BitVec.toNat_ofNat, ← Nat.or_mod_two_pow]
  unfold Sha.orr
  have : (a ||| b) % 2 ^ 32 < 2 ^ 32 := Nat.mod_lt _ (by decide)
  omega
theorem u32_and_nat (a b : Nat) : bits .and .u32 (a : Int) (b : Int) = ((Sha.an a b : Nat) : Int) := by
  show (((BitVec.ofInt 32 (a : Int) &&& BitVec.ofInt 32 (b : Int)).toNat : Int) % 4294967296) = _
  rw [BitVec.toNat_and, BitVec.ofInt_natCast, BitVec.toNat_ofNat, BitVec.ofInt_natCast, BitVec.toNat_ofNat, ← Nat.and_mod_two_pow]
  unfold Sha.an
  have : (a &&& b) % 2 ^ 32 < 2 ^ 32 := Nat.mod_lt _ (by decide)
  omega
theorem u32_xor_nat (a b : Nat) : bits .xor .u32 (a : Int) (b : Int) = ((Sha.xr a b : Nat) : Int) := by
  show (((BitVec.ofInt 32 (a : Int) ^^^ BitVec.ofInt 32 (b : Int)).toNat : Int) % 4294967296) = _
  rw [BitVec.toNat_xor, BitVec.ofInt_natCast, BitVec.toNat_ofNat, BitVec.ofInt_natCast, BitVec.toNat_ofNat, ← Nat.xor_mod_two_pow]
  unfold Sha.xr
  have : (a ^^^ b) % 2 ^ 32 < 2 ^ 32 := Nat.mod_lt _ (by decide)
  omega
theorem u32_add_nat (a b : Nat) : IntKind.u32.wrap ((a : Int) + (b : Int)) = ((Sha.ad a b : Nat) : Int) := by
  show ((a : Int) + (b : Int)) % 4294967296 = _
  unfold Sha.ad
  omega
/-- A word that is turned to the right by so many. -/
def Turns (n : Nat) : Prop := n = 2 ∨ n = 6 ∨ n = 7 ∨ n = 11 ∨ n = 13 ∨ n = 17 ∨ n = 18 ∨ n = 19 ∨ n = 22 ∨ n = 25
theorem rt_int (x n a b : Nat) (ha : 2 ^ n = a) (hb : 2 ^ (32 - n) = b) : bits .or .u32 ((x : Int) / (a : Int)) ((x : Int) * (b : Int) % 4294967296) = ((Sha.rt x n : Nat) : Int) := by
  subst ha hb
  unfold Sha.rt Sha.sr Sha.sl
  rw [← u32_or_nat]
  congr 1
theorem rt_intC (x n a b : Nat) (ha : 2 ^ n = a) (hb : 2 ^ (32 - n) = b) : bits .or .u32 ((x : Int) * (b : Int) % 4294967296) ((x : Int) / (a : Int)) = ((Sha.rt x n : Nat) : Int) := by
  subst ha hb
  unfold Sha.rt
  rw [Sha.orr_comm]
  unfold Sha.sr Sha.sl
  rw [← u32_or_nat]
  congr 1
theorem numRet {k : IntKind} {a b : Int} (h : a = b) : Ending.returned (.int k a) = .returned (.int k b) := by rw [h]
set_option maxRecDepth 100000 in
theorem l03Turn_any (x n : Nat) (hn : Turns n) (w : World) :
    Calls Tryz.prog 137 #[.int .u32 (x : Int), .int .u64 (n : Int)] w fun e w' => e = .returned (.int .u32 ((Sha.rt x n : Nat) : Int)) ∧ w = w' := by
  rcases hn with rfl | rfl | rfl | rfl | rfl | rfl | rfl | rfl | rfl | rfl
  · have E : Hid (_ = _) := rt_int x 2 4 1073741824 (by decide) (by decide)
    go_enter Tryz.func137, Tryz.ntmps137
    go_wp2
    go_ret
    exact ⟨numRet E.out, rfl⟩
  · have E : Hid (_ = _) := rt_int x 6 64 67108864 (by decide) (by decide)
    go_enter Tryz.func137, Tryz.ntmps137
    go_wp2
    go_ret
    exact ⟨numRet E.out, rfl⟩
  · have E : Hid (_ = _) := rt_int x 7 128 33554432 (by decide) (by decide)
    go_enter Tryz.func137, Tryz.ntmps137
    go_wp2
    go_ret
    exact ⟨numRet E.out, rfl⟩
  · have E : Hid (_ = _) := rt_int x 11 2048 2097152 (by decide) (by decide)
    go_enter Tryz.func137, Tryz.ntmps137
    go_wp2
    go_ret
    exact ⟨numRet E.out, rfl⟩
  · have E : Hid (_ = _) := rt_int x 13 8192 524288 (by decide) (by decide)
    go_enter Tryz.func137, Tryz.ntmps137
    go_wp2
    go_ret
    exact ⟨numRet E.out, rfl⟩
  · have E : Hid (_ = _) := rt_int x 17 131072 32768 (by decide) (by decide)
    go_enter Tryz.func137, Tryz.ntmps137
    go_wp2
    go_ret
    exact ⟨numRet E.out, rfl⟩
  · have E : Hid (_ = _) := rt_int x 18 262144 16384 (by decide) (by decide)
    go_enter Tryz.func137, Tryz.ntmps137
    go_wp2
    go_ret
    exact ⟨numRet E.out, rfl⟩
  · have E : Hid (_ = _) := rt_int x 19 524288 8192 (by decide) (by decide)
    go_enter Tryz.func137, Tryz.ntmps137
    go_wp2
    go_ret
    exact ⟨numRet E.out, rfl⟩
  · have E : Hid (_ = _) := rt_int x 22 4194304 1024 (by decide) (by decide)
    go_enter Tryz.func137, Tryz.ntmps137
    go_wp2
    go_ret
    exact ⟨numRet E.out, rfl⟩
  · have E : Hid (_ = _) := rt_int x 25 33554432 128 (by decide) (by decide)
    go_enter Tryz.func137, Tryz.ntmps137
    go_wp2
    go_ret
    exact ⟨numRet E.out, rfl⟩
set_option maxRecDepth 100000 in
theorem rotl_any (x n : Nat) (hn : Turns n) (w : World) :
    Calls Tryz.prog 146 #[.int .u32 (x : Int), .int .i64 (-(n : Int))] w fun e w' => e = .returned (.int .u32 ((Sha.rt x n : Nat) : Int)) ∧ w = w' := by
  rcases hn with rfl | rfl | rfl | rfl | rfl | rfl | rfl | rfl | rfl | rfl
  · have q1 : bits .and .u64 (IntKind.u64.wrap (-((2 : Nat) : Int))) 31 = 30 := by decide
    have q2 : bits .and .u64 (IntKind.u64.wrap (-2)) 31 = 30 := by decide
    have E : Hid (_ = _) := rt_intC x 2 4 1073741824 (by decide) (by decide)
    go_enter Tryz.func146, Tryz.ntmps146
    go_wp2
    go_ret
    exact ⟨numRet E.out, rfl⟩
  · have q1 : bits .and .u64 (IntKind.u64.wrap (-((6 : Nat) : Int))) 31 = 26 := by decide
    have q2 : bits .and .u64 (IntKind.u64.wrap (-6)) 31 = 26 := by decide
    have E : Hid (_ = _) := rt_intC x 6 64 67108864 (by decide) (by decide)
    go_enter Tryz.func146, Tryz.ntmps146
    go_wp2
    go_ret
    exact ⟨numRet E.out, rfl⟩
  · have q1 : bits .and .u64 (IntKind.u64.wrap (-((7 : Nat) : Int))) 31 = 25 := by decide
    have q2 : bits .and .u64 (IntKind.u64.wrap (-7)) 31 = 25 := by decide
    have E : Hid (_ = _) := rt_intC x 7 128 33554432 (by decide) (by decide)
    go_enter Tryz.func146, Tryz.ntmps146
    go_wp2
    go_ret
    exact ⟨numRet E.out, rfl⟩
  · have q1 : bits .and .u64 (IntKind.u64.wrap (-((11 : Nat) : Int))) 31 = 21 := by decide
    have q2 : bits .and .u64 (IntKind.u64.wrap (-11)) 31 = 21 := by decide
    have E : Hid (_ = _) := rt_intC x 11 2048 2097152 (by decide) (by decide)
    go_enter Tryz.func146, Tryz.ntmps146
    go_wp2
    go_ret
    exact ⟨numRet E.out, rfl⟩
  · have q1 : bits .and .u64 (IntKind.u64.wrap (-((13 : Nat) : Int))) 31 = 19 := by decide
    have q2 : bits .and .u64 (IntKind.u64.wrap (-13)) 31 = 19 := by decide
    have E : Hid (_ = _) := rt_intC x 13 8192 524288 (by decide) (by decide)
    go_enter Tryz.func146, Tryz.ntmps146
    go_wp2
    go_ret
    exact ⟨numRet E.out, rfl⟩
  · have q1 : bits .and .u64 (IntKind.u64.wrap (-((17 : Nat) : Int))) 31 = 15 := by decide
    have q2 : bits .and .u64 (IntKind.u64.wrap (-17)) 31 = 15 := by decide
    have E : Hid (_ = _) := rt_intC x 17 131072 32768 (by decide) (by decide)
    go_enter Tryz.func146, Tryz.ntmps146
    go_wp2
    go_ret
    exact ⟨numRet E.out, rfl⟩
  · have q1 : bits .and .u64 (IntKind.u64.wrap (-((18 : Nat) : Int))) 31 = 14 := by decide
    have q2 : bits .and .u64 (IntKind.u64.wrap (-18)) 31 = 14 := by decide
    have E : Hid (_ = _) := rt_intC x 18 262144 16384 (by decide) (by decide)
    go_enter Tryz.func146, Tryz.ntmps146
    go_wp2
    go_ret
    exact ⟨numRet E.out, rfl⟩
  · have q1 : bits .and .u64 (IntKind.u64.wrap (-((19 : Nat) : Int))) 31 = 13 := by decide
    have q2 : bits .and .u64 (IntKind.u64.wrap (-19)) 31 = 13 := by decide
    have E : Hid (_ = _) := rt_intC x 19 524288 8192 (by decide) (by decide)
    go_enter Tryz.func146, Tryz.ntmps146
    go_wp2
    go_ret
    exact ⟨numRet E.out, rfl⟩
  · have q1 : bits .and .u64 (IntKind.u64.wrap (-((22 : Nat) : Int))) 31 = 10 := by decide
    have q2 : bits .and .u64 (IntKind.u64.wrap (-22)) 31 = 10 := by decide
    have E : Hid (_ = _) := rt_intC x 22 4194304 1024 (by decide) (by decide)
    go_enter Tryz.func146, Tryz.ntmps146
    go_wp2
    go_ret
    exact ⟨numRet E.out, rfl⟩
  · have q1 : bits .and .u64 (IntKind.u64.wrap (-((25 : Nat) : Int))) 31 = 7 := by decide
    have q2 : bits .and .u64 (IntKind.u64.wrap (-25)) 31 = 7 := by decide
    have E : Hid (_ = _) := rt_intC x 25 33554432 128 (by decide) (by decide)
    go_enter Tryz.func146, Tryz.ntmps146
    go_wp2
    go_ret
    exact ⟨numRet E.out, rfl⟩
set_option maxRecDepth 100000 in
theorem turned_any (x n : Nat) (hn : Turns n) (w : World) :
    Calls Tryz.prog 139 #[.int .u32 (x : Int), .int .i64 (n : Int)] w fun e w' => e = .returned (.int .u32 ((Sha.rt x n : Nat) : Int)) ∧ w = w' := by
  have RL : Hid (∀ w : World, Calls Tryz.prog 146 #[.int .u32 (x : Int), .int .i64 (-(n : Int))] w fun e w' => e = .returned (.int .u32 ((Sha.rt x n : Nat) : Int)) ∧ w = w') := rotl_any x n hn
  have hn' : n ≤ 25 := by unfold Turns at hn; omega
  clear hn
  generalize Sha.rt x n = R at *
  go_enter Tryz.func139, Tryz.ntmps139
  go_wp2_with fail
  refine (RL.out _).mono ?_
  rintro e w' ⟨rfl, rfl⟩
  go_wp2
  go_ret
  exact ⟨rfl, rfl⟩
end Go.Proofs.YtbecnaabmlkjjabGreatDoor
namespace Go.Proofs.YtbecnaabmlkjjabGreatDoor
open Go.ChangeShapes Go.WideShapes Go.ChangeAt Go.RowKit
/-- n words as cells. -/
def wv (n : Nat) (f : Nat → Nat) : List Value := (List.range n).map fun i => .int .u32 (f i : Nat)
/-- n words as the value of an array. -/
def wA (n : Nat) (f : Nat → Nat) : Array Value := (wv n f).toArray
theorem wv_length (n : Nat) (f : Nat → Nat) : (wv n f).length = n := by simp [wv]
theorem wA_size (n : Nat) (f : Nat → Nat) : (wA n f).size = n := by simp [wA, wv]
theorem wA_toList (n : Nat) (f : Nat → Nat) : (wA n f).toList = wv n f := by simp [wA]
theorem wv_at {n : Nat} {f : Nat → Nat} {k : Nat} (h : k < n) : (wv n f)[k]? = some (.int .u32 (f k : Nat)) := by simp [wv, h]
theorem wA_at {n : Nat} {f : Nat → Nat} {k : Nat} (h : k < n) : (wA n f)[k]? = some (.int .u32 (f k : Nat)) := by rw [wA, List.getElem?_toArray]; exact wv_at h
theorem wA_one (n : Nat) (f : Nat → Nat) : (wA n f).all (·.oneCell') = true := all_oneCell_toArray (fun v hv => by
  obtain ⟨i, _, rfl⟩ := List.mem_map.1 hv
  rfl)
/-- The row in block b holds n words. -/
def RowW (w : World) (b : Nat) (t : TypeId) (n : Nat) (f : Nat → Nat) : Prop := w.rowIs b t n (fun i => .int .u32 (f i : Nat))
theorem RowW.range {w : World} {b n : Nat} {t : TypeId} {f : Nat → Nat} (h : RowW w b t n f) : w.rangeAt b 0 (wv n f) := fun j v hv => by
  have hj : j < n := by have := (List.getElem?_eq_some_iff.1 hv).1; rwa [wv_length] at this
  rw [wv_at hj] at hv
  cases hv
  rw [Nat.zero_add]
  exact h.cell hj
theorem RowW.there {w : World} {b n : Nat} {t : TypeId} {f : Nat → Nat} (h : RowW w b t n f) : w.there b 0 n := fun j hj => by
  rw [Nat.zero_add, h.cell hj, h.frozen j]
  exact ⟨rfl, rfl⟩
theorem RowW.boxed (w : World) (t : TypeId) (n : Nat) (f : Nat → Nat) : RowW (w.alloc (.cells (wA n f) t)) w.heap.size t n f := by
  have := World.rowIs_alloc w (wA n f) t (fun i => .int .u32 (f i : Nat)) (fun i hi => wA_at (by rwa [wA_size] at hi))
  rw [wA_size] at this
  exact this
theorem RowW.zeros (w : World) (t : TypeId) (n : Nat) : RowW (w.alloc (.cells (Array.replicate n (.int .u32 0)) t)) w.heap.size t n (fun _ => 0) := by
  have := World.rowIs_alloc w (Array.replicate n (.int .u32 0)) t (fun _ => .int .u32 ((0 : Nat) : Int)) (fun i hi => by
    have hi' : i < n := by simpa using hi
    simp [hi'])
  rw [Array.size_replicate] at this
  exact this
theorem RowW.set {w : World} {b n : Nat} {t : TypeId} {f : Nat → Nat} (h : RowW w b t n f) (i v : Nat) : RowW (w.setCell ⟨b, i, none⟩ (.int .u32 (v : Nat))) b t n (fun j => if j = i then v else f j) :=
  (World.rowIs.set h i _).congr (fun j _ => by by_cases e : j = i <;> simp [e])
theorem RowW.congr {w : World} {b n : Nat} {t : TypeId} {f g : Nat → Nat} (h : RowW w b t n f) (e : ∀ i, i < n → f i = g i) : RowW w b t n g := World.rowIs.congr h (fun i hi => by rw [e i hi])
theorem RowW.below {w w' : World} {b n : Nat} {t : TypeId} {f : Nat → Nat} (h : RowW w b t n f) (hb : Below w.heap.size w w') : RowW w' b t n f := World.rowIs.of_block h (hb.block b h.lt)
theorem RowW.other {w : World} {b n : Nat} {t : TypeId} {f : Nat → Nat} (h : RowW w b t n f) {a : Addr} (ha : b ≠ a.block) (v : Value) : RowW (w.setCell a v) b t n f := World.rowIs.setOther h ha v
theorem RowW.alloc {w : World} {b n : Nat} {t : TypeId} {f : Nat → Nat} (h : RowW w b t n f) (o : Obj) : RowW (w.alloc o) b t n f := World.rowIs.alloc h o
theorem RowW.drewN {w : World} {b n : Nat} {t : TypeId} {f : Nat → Nat} (h : RowW w b t n f) (q : Nat) : RowW (w.drewN q) b t n f := h
theorem RowW.stored {w : World} {b n : Nat} {t : TypeId} {f : Nat → Nat} (h : RowW w b t n f) (g : Nat → Nat) : RowW (w.setCells b 0 (wv n g)) b t n g :=
  (rowIs_setCells (wv n g) 0 w _ h).congr (fun i hi => by
    rw [if_pos (by rw [wv_length]; omega), Nat.sub_zero, List.getD_eq_getElem?_getD, wv_at hi]; rfl)
theorem RowW.storedOther {w : World} {b b' n : Nat} {t : TypeId} {f : Nat → Nat} (h : RowW w b' t n f) (hne : b' ≠ b) (o : Nat) (vs : List Value) : RowW (w.setCells b o vs) b' t n f := rowIs_setCells_other hne vs o w h
theorem RowW.load {P : Program} {w : World} {b n : Nat} {t : TypeId} {f : Nat → Nat} (h : RowW w b t n f) {d : TypeDesc} (hu : P.underlying t = some d) (hd : d.isRow = true) (hi : (P.info? t).map (·.size) = some n) : (loadVar t ⟨b, 0, none⟩).run P w = .ok (.agg (wA n f)) w :=
  run_loadVar_mid w b 0 t (wv n f) d h.range hu hd (by rw [wv_length]; exact hi)
theorem RowW.boxedAt {w : World} {b : Nat} (hb : w.heap.size = b) (t : TypeId) (n : Nat) (f : Nat → Nat) : RowW (w.alloc (.cells (wA n f) t)) b t n f := by subst hb; exact RowW.boxed w t n f
theorem RowW.zerosAt {w : World} {b : Nat} (hb : w.heap.size = b) (t : TypeId) (n : Nat) : RowW (w.alloc (.cells (Array.replicate n (.int .u32 0)) t)) b t n (fun _ => 0) := by subst hb; exact RowW.zeros w t n
theorem RowW.onlyB {w w' : World} {b c n : Nat} {t : TypeId} {f : Nat → Nat} (h : RowW w b t n f) (ho : OnlyB c w w') (hne : b ≠ c) : RowW w' b t n f := World.rowIs.of_block h (ho.block b h.lt hne)
end Go.Proofs.YtbecnaabmlkjjabGreatDoor
