/-
  What has been taken, and what the window says of it.
-/
import Derived.Test.YtkhglllicblbbaaDoorJ01
import Derived.Test.YtkhglllicblbbaaDoorLkSd2
import Derived.Test.YtkhglllicblbbaaDoorLKey
import Derived.Test.YtkhglllicblbbaaDoorNewL
import Derived.Test.YtkhglllicblbbaaDoorSrcL
import Derived.Test.YtkhglllicblbbaaDoorAtIs
namespace Go.Proofs.YtkhglllicblbbaaDoor
open Go.ChangeShapes Go.WideShapes Go.ChangeAt Go.RowKit
set_option linter.unusedVariables false
/-- The window tells of each packet behind the highest one whether it was taken. -/
def Tak (t : Nat) (F : Nat → Bool) (m : Nat) (TK : Nat → Nat) : Prop := (∀ j, j < m → 1 ≤ TK j ∧ TK j ≤ t) ∧ (∀ q, 1 ≤ q → q ≤ t → t < q + 32 → (F (t - q) = true ↔ ∃ j, j < m ∧ TK j = q))
/-- What is due for packet q. -/
def due (t : Nat) (m : Nat) (TK : Nat → Nat) (q : Nat) (code : Int) : Prop := (q + 32 ≤ t ∧ code = 15) ∨ (t < q + 32 ∧ (∃ j, j < m ∧ TK j = q) ∧ code = 14) ∨ (t < q + 32 ∧ (¬ ∃ j, j < m ∧ TK j = q) ∧ code = 0)
theorem due_ex (t m : Nat) (TK : Nat → Nat) (q : Nat) : ∃ code, due t m TK q code := by
  by_cases h1 : q + 32 ≤ t
  · exact ⟨_, .inl ⟨h1, rfl⟩⟩
  · by_cases h2 : ∃ j, j < m ∧ TK j = q
    · exact ⟨_, .inr (.inl ⟨by omega, h2, rfl⟩)⟩
    · exact ⟨_, .inr (.inr ⟨by omega, h2, rfl⟩)⟩
theorem due_tkC {K B T : ByteArray} {t m : Nat} {F : Nat → Bool} {TK : Nat → Nat} {q : Nat} {code : Int} (hq : 1 ≤ q ∧ q ≤ 1000000) (hT : T = ptag K B q) (hI : Tak t F m TK) (hd : due t m TK q code) : TkC K (t : Int) F (q : Int) B T code := by
  have h0 : (1 : Int) ≤ (q : Int) ∧ (q : Int) ≤ 1000000 := by omega
  have h1 : ptag K B (q : Int).toNat = T := by rw [Int.toNat_natCast, hT]
  rcases hd with ⟨g1, rfl⟩ | ⟨g1, ⟨j, hj, e⟩, rfl⟩ | ⟨g1, g2, rfl⟩
  · exact .inr (.inr (.inl ⟨h0, h1, by omega, rfl⟩))
  · have := (hI.1 j hj).2
    refine .inr (.inr (.inr (.inl ⟨h0, h1, by omega, by omega, ?_, rfl⟩)))
    rw [show ((t : Int) - (q : Int)).toNat = t - q from by omega]
    exact (hI.2 q hq.1 (by omega) g1).2 ⟨j, hj, e⟩
  · refine .inr (.inr (.inr (.inr ⟨h0, h1, by omega, fun z => ?_, rfl⟩)))
    rw [show ((t : Int) - (q : Int)).toNat = t - q from by omega] at z
    exact g2 ((hI.2 q hq.1 (by omega) g1).1 z.2)
theorem Tak.step {t m : Nat} {F : Nat → Bool} {TK : Nat → Nat} {q : Nat} (hI : Tak t F m TK) (hq : 1 ≤ q) (hw : t < q + 32) : Tak (max t q) (tkW t q F) (m + 1) (fun j => if j = m then q else TK j) := by
  refine ⟨fun j hj => ?_, fun p hp h1 h2 => ?_⟩
  · by_cases e : j = m
    · simp only [if_pos e]; omega
    · simp only [if_neg e]; have := hI.1 j (by omega); omega
  · have hex : (∃ j, j < m + 1 ∧ (if j = m then q else TK j) = p) ↔ (p = q ∨ ∃ j, j < m ∧ TK j = p) := by
      constructor
      · rintro ⟨j, hj, e⟩
        by_cases g : j = m
        · rw [if_pos g] at e; exact .inl e.symm
        · rw [if_neg g] at e; exact .inr ⟨j, by omega, e⟩
      · rintro (e | ⟨j, hj, e⟩)
        · exact ⟨m, by omega, by rw [if_pos rfl, e]⟩
        · exact ⟨j, by omega, by rw [if_neg (by omega), e]⟩
    rw [hex]
    clear hex
    by_cases hl : q ≤ t
    · rw [show max t q = t from by omega] at h1 h2 ⊢
      have hi := hI.2 p hp h1 h2
      unfold tkW
      rw [if_pos hl, Bool.or_eq_true, decide_eq_true_eq, hi]
      constructor
      · rintro (e | e)
        · exact .inl (by omega)
        · exact .inr e
      · rintro (e | e)
        · exact .inl (by omega)
        · exact .inr e
    · rw [show max t q = q from by omega] at h1 h2 ⊢
      unfold tkW
      rw [if_neg hl, Bool.or_eq_true, decide_eq_true_eq, Bool.and_eq_true, decide_eq_true_eq]
      constructor
      · rintro (e | ⟨e1, e2⟩)
        · exact .inl (by omega)
        · rw [show q - p - (q - t) = t - p from by omega] at e2
          exact .inr ((hI.2 p hp (by omega) (by omega)).1 e2)
      · rintro (e | ⟨j, hj, e⟩)
        · exact .inl (by omega)
        · have := (hI.1 j hj).2
          refine .inr ⟨by omega, ?_⟩
          rw [show q - p - (q - t) = t - p from by omega]
          exact (hI.2 p hp (by omega) (by omega)).2 ⟨j, hj, e⟩
theorem LkOk.step {K : ByteArray} {se : Int} {t q : Nat} {F : Nat → Bool} (h : LkOk K se (t : Int) 32 F) (hq : 1 ≤ q ∧ q ≤ 1000000) (hw : t < q + 32) : LkOk K se ((max t q : Nat) : Int) 32 (tkW t q F) := by
  obtain ⟨h1, h2, h3, h4, h5, h6⟩ := h
  refine ⟨h1, h2, by omega, rfl, ?_, fun i g1 g2 g3 => ?_⟩
  · have e1 : decide ((0 : Int) < ((max t q : Nat) : Int)) = true := by simp; omega
    rw [e1]
    by_cases hl : q ≤ t
    · unfold tkW
      rw [if_pos hl]
      have : F 0 = true := by rw [h5]; simp; omega
      rw [this]; simp
    · unfold tkW
      rw [if_neg hl]; simp
  · by_cases hl : q ≤ t
    · unfold tkW at g3
      rw [if_pos hl, Bool.or_eq_true, decide_eq_true_eq] at g3
      rcases g3 with e | e
      · omega
      · have := h6 i g1 g2 e; omega
    · unfold tkW at g3
      rw [if_neg hl, Bool.or_eq_true, decide_eq_true_eq, Bool.and_eq_true, decide_eq_true_eq] at g3
      rcases g3 with e | ⟨e1, e2⟩
      · omega
      · by_cases z : i - (q - t) = 0
        · rw [z, h5] at e2
          have : (0 : Int) < (t : Int) := by simpa using e2
          omega
        · have := h6 (i - (q - t)) (by omega) (by omega) e2
          omega
/-- The cells of the packets that were sent. -/
def pkC (K B : ByteArray) (c : Nat) : Value := if c % 3 = 0 then .int .i64 (((c / 3 + 1 : Nat) : Int)) else if c % 3 = 1 then .string B else .string (ptag K B (c / 3 + 1))
def pkL (K B : ByteArray) (k : Nat) : List Value := (List.range (k * 3)).map (pkC K B)
theorem pkL_length (K B : ByteArray) (k : Nat) : (pkL K B k).length = k * 3 := by simp [pkL]
theorem pkL_next (K B : ByteArray) (k : Nat) : pkL K B k ++ [.int .i64 ((k + 1 : Nat) : Int), .string B, .string (ptag K B (k + 1))] = pkL K B (k + 1) := by
  unfold pkL
  rw [Nat.add_mul, Nat.one_mul, List.range_add, List.map_append]
  congr 1
  show _ = [pkC K B (k * 3 + 0), pkC K B (k * 3 + 1), pkC K B (k * 3 + 2)]
  unfold pkC
  rw [if_pos (by omega), if_neg (by omega), if_pos (by omega), if_neg (by omega), if_neg (by omega), show (k * 3 + 0) / 3 = k from by omega, show (k * 3 + 2) / 3 = k from by omega]
theorem pkC0 (K B : ByteArray) (j : Nat) : pkC K B (j * 3) = .int .i64 ((j + 1 : Nat) : Int) := by unfold pkC; rw [if_pos (by omega), show j * 3 / 3 = j from by omega]
theorem pkC1 (K B : ByteArray) (j : Nat) : pkC K B (j * 3 + 1) = .string B := by unfold pkC; rw [if_neg (by omega), if_pos (by omega)]
theorem pkC2 (K B : ByteArray) (j : Nat) : pkC K B (j * 3 + 2) = .string (ptag K B (j + 1)) := by unfold pkC; rw [if_neg (by omega), if_neg (by omega), show (j * 3 + 2) / 3 = j from by omega]
end Go.Proofs.YtkhglllicblbbaaDoor

/-
  Packets in the laws: copied, sized, compared; what marks leave alone.
-/
namespace Go.Proofs.YtkhglllicblbbaaDoor
open Go.ChangeShapes Go.WideShapes Go.ChangeAt Go.RowKit
set_option linter.unusedVariables false
theorem Bools.onlyA2 {w w' : World} {n : Nat} {a : Option Addr} {f : Nat → Bool} {c : Option Addr} {m : Nat} (h : Bools w a n f) (ho : OnlyA c m w w') (hd : 0 < n → 0 < m → ∀ x y, a = some x → c = some y → y.block ≠ x.block) : Bools w' a n f := fun i hi => by
  obtain ⟨b, off, ha, hc⟩ := h i hi
  refine ⟨b, off, ha, ?_⟩
  rw [World.cell?_of_block (w := w) (ho.block b (strBlock hc) (fun h0 y hy => hd (by omega) h0 _ y ha hy))]
  exact hc
theorem OnlyA.keepP {w w' : World} {b : Nat} {t : TypeId} {x y z : Value} {c : Option Addr} {k : Nat} (ho : OnlyA c k w w') (h : BoxP w b t x y z) (hd : 0 < k → ∀ p, c = some p → p.block ≠ b) : BoxP w' b t x y z := h.ofBlock (ho.block b h.lt hd)
end Go.Proofs.YtkhglllicblbbaaDoor

/-
  Lists of numbers in the law of links.
-/
namespace Go.Proofs.YtkhglllicblbbaaDoor
open Go.ChangeShapes Go.WideShapes Go.ChangeAt Go.RowKit
set_option linter.unusedVariables false
/-- m numbers as the cells of a list. -/
def nvL (m : Nat) (TK : Nat → Nat) : List Value := (List.range m).map fun j => .int .i64 ((TK j : Nat) : Int)
theorem nvL_length (m : Nat) (TK : Nat → Nat) : (nvL m TK).length = m := by simp [nvL]
theorem nvL_next (m : Nat) (TK : Nat → Nat) (q : Nat) : nvL m TK ++ [.int .i64 (q : Int)] = nvL (m + 1) (fun j => if j = m then q else TK j) := by
  unfold nvL
  rw [List.range_succ, List.map_append]
  congr 1
  · exact List.map_congr_left (fun j hj => by
      have := List.mem_range.1 hj
      show Value.int .i64 ((TK j : Nat) : Int) = .int .i64 (((if j = m then q else TK j) : Nat) : Int)
      rw [if_neg (by omega)])
  · simp
/-- A slice of m numbers. -/
def NumsR (w : World) (a : Option Addr) (m : Nat) (TK : Nat → Nat) : Prop := ∀ i, i < m → ∃ b, a = some ⟨b, 0, none⟩ ∧ w.cell? ⟨b, i, none⟩ = some (.int .i64 ((TK i : Nat) : Int))
theorem nums_of_own {w : World} {B g m c : Nat} {TK : Nat → Nat} (h : w.ownsRow B 3 1 (.slice (some ⟨g, 0, none⟩) m c) m (nvL m TK)) : NumsR w (some ⟨g, 0, none⟩) m TK := fun i hi => by
  obtain ⟨g', cap, hg, _, e, hc⟩ := owned_open h (by omega)
  cases e
  exact ⟨g, rfl, hc i hi⟩
set_option maxRecDepth 100000 in
set_option maxHeartbeats 1000000 in
theorem hasInt_any (a : Option Addr) (m c : Nat) (TK : Nat → Nat) (q : Nat) (r : Bool) (hr : r = true ↔ ∃ j, j < m ∧ TK j = q) (hm : m ≤ 1000) (w : World) (h : NumsR w a m TK) :
    Calls Tryd.prog 29 #[.slice a m c, .int .i64 (q : Int)] w fun e w' => e = .returned (.bool r) ∧ w = w' := by
  have RF : Hid ((∀ j, j < m → ¬ TK j = q) → r = false) := fun z => by cases r with
    | false => rfl
    | true => obtain ⟨j, hj, e⟩ := hr.1 rfl; exact absurd e (z j hj)
  have RT : Hid (∀ j, j < m → TK j = q → r = true) := fun j hj e => hr.2 ⟨j, hj, e⟩
  have HN : Hid (NumsR w a m TK) := h
  clear hr h
  go_enter Tryd.func29, Tryd.ntmps29
  go_wp2
  go_loopw [5] (fun i wr => ∃ k : Nat, k ≤ m ∧ i = .int .i64 (k : Int) ∧ (∀ j, j < k → ¬ TK j = q) ∧ wr = w) (fun i _ => m - (intOf i).toNat)
  case atStart => exact ⟨0, by omega, rfl, fun j hj => by omega, rfl⟩
  case round =>
    obtain ⟨k, hk, rfl, hj, rfl⟩ := hrel
    have HJ : Hid (∀ j, j < k → ¬ TK j = q) := hj
    clear hj
    by_cases hlt : k < m
    · obtain ⟨b, rfl, hc⟩ := HN.out k hlt
      have hlt' : (k : Int) < (m : Int) := by omega
      have k0 : (0 : Int) ≤ (k : Int) := by omega
      by_cases e : TK k = q
      · obtain rfl : r = true := RT.out k hlt e
        have e2 : (((TK k : Nat) : Int) == (q : Int)) = true := by simp [e]
        clear e RF RT
        go_wp2
        go_ret
        exact ⟨rfl, rfl⟩
      · have e2 : (((TK k : Nat) : Int) == (q : Int)) = false := by simp; omega
        have HE : Hid (¬ TK k = q) := e
        clear e
        go_wp2
        go_roundw
        case rel => exact ⟨k + 1, by omega, by go_num, fun j hj => by
          rcases (show j < k ∨ j = k by omega) with g | rfl
          · exact HJ.out j g
          · exact HE.out, by trivial⟩
        case measure => simp [intOf]; omega
    · have hlt' : ¬ (k : Int) < (m : Int) := by omega
      obtain rfl : r = false := RF.out (fun j hj => HJ.out j (by omega))
      clear RF RT
      go_wp2
      go_ret
      exact ⟨rfl, rfl⟩
end Go.Proofs.YtkhglllicblbbaaDoor

/-
  The law FnLink: a packet is taken once, in whatever order, unless it is too far behind.
-/
namespace Go.Proofs.YtkhglllicblbbaaDoor
open Go.ChangeShapes Go.WideShapes Go.ChangeAt Go.RowKit
set_option linter.unusedVariables false
theorem below_drewN (w : World) (q : Nat) : Below w.heap.size w (w.drewN q) := ⟨rfl, rfl, rfl, Nat.le_refl _, fun _ _ => rfl⟩
theorem info_partsP : ∃ i0, Tryd.prog.info? 57 = some i0 ∧ i0.zero = some (.agg #[.int .i64 0, .string ⟨#[]⟩, .string ⟨#[]⟩]) ∧ i0.size = 3 ∧ i0.bytes = 40 := by
  have h : (Tryd.prog.info? 57).map (fun i => (i.zero, i.size, i.bytes)) = some (some (.agg #[.int .i64 0, .string ⟨#[]⟩, .string ⟨#[]⟩]), 3, 40) := by kernel_rfl
  obtain ⟨i, hi, hzz⟩ := Option.map_eq_some_iff.1 h
  simp only [Prod.mk.injEq] at hzz
  exact ⟨i, hi, hzz.1, hzz.2.1, hzz.2.2⟩
theorem info_partsI : ∃ i0, Tryd.prog.info? 3 = some i0 ∧ i0.zero = some (.int .i64 0) ∧ i0.size = 1 ∧ i0.bytes = 8 := by
  have h : (Tryd.prog.info? 3).map (fun i => (i.zero, i.size, i.bytes)) = some (some (.int .i64 0), 1, 8) := by kernel_rfl
  obtain ⟨i, hi, hzz⟩ := Option.map_eq_some_iff.1 h
  simp only [Prod.mk.injEq] at hzz
  exact ⟨i, hi, hzz.1, hzz.2.1, hzz.2.2⟩
/-- Two rows of different types are two blocks. -/
theorem types_ne {w : World} {B base g n k size : Nat} {a : Option Addr} {f : Nat → Bool} {e : TypeId} {v : Value} {xs : List Value} (h : OwnB w B a n f) (hn : 0 < n) (ho : w.ownsRow base e size v k xs) (hv : ∃ c, v = .slice (some ⟨g, 0, none⟩) k c) (he : 4 ≠ e) : ∀ p, a = some p → p.block ≠ g := fun p hp eq => by
  obtain ⟨cc, hvc⟩ := hv
  rcases h with h | ⟨b, m, G, hB, ha, ⟨c, hc, _⟩, hm, hG⟩
  · omega
  · rw [ha] at hp
    cases hp
    obtain ⟨_, ⟨hv0, _⟩ | ⟨g', cap, cur, hv', _, hh, _⟩⟩ := ho
    · rw [hvc] at hv0; cases hv0
    · rw [hvc] at hv'
      cases hv'
      have eq' : b = g := eq
      rw [eq', hh] at hc
      cases hc
      exact he rfl
theorem owned_some {w : World} {base size k : Nat} {e : TypeId} {v : Value} {xs : List Value} (h : w.ownsRow base e size v k xs) (hk : 0 < k) : ∃ g c, v = .slice (some ⟨g, 0, none⟩) k c ∧ base ≤ g ∧ g < w.heap.size := by
  obtain ⟨_, ⟨_, h0⟩ | ⟨g, cap, cur, hv, hb, hh, _⟩⟩ := h
  · omega
  · refine ⟨g, cap, hv, hb, ?_⟩
    rcases Nat.lt_or_ge g w.heap.size with q | q
    · exact q
    · rw [Array.getElem?_eq_none q] at hh; cases hh
theorem OwnB.blk {w w' : World} {B n : Nat} {a : Option Addr} {f : Nat → Bool} (h : OwnB w B a n f) (hd : ∀ p, a = some p → w'.heap[p.block]? = w.heap[p.block]?) : OwnB w' B a n f := by
  rcases h with h | ⟨g, k, G, hB, ha, hr, hm, hG⟩
  · exact .inl h
  · exact .inr ⟨g, k, G, hB, ha, hr.of_block (hd _ ha), hm, hG⟩
theorem OwnB.ltO {w : World} {B n : Nat} {a : Option Addr} {f : Nat → Bool} (h : OwnB w B a n f) (hn : 0 < n) : ∀ p, a = some p → p.block < w.heap.size := h.bools.ltB hn
theorem three_new (w : World) (x y z : Value) (t : TypeId) : ∀ j u, [x, y, z][j]? = some u → (w.alloc (.cells #[x, y, z] t)).cell? ((⟨w.heap.size, 0, none⟩ : Addr).add j) = some u := fun j u hj => by
  match j, hj with
  | 0, hj =>
    have e : x = u := by simpa using hj
    subst e
    simp [Addr.add]
  | 1, hj =>
    have e : y = u := by simpa using hj
    subst e
    simp [Addr.add]
  | 2, hj =>
    have e : z = u := by simpa using hj
    subst e
    simp [Addr.add]
theorem three_one (q : Int) (s t : ByteArray) : ∀ u ∈ [Value.int .i64 q, .string s, .string t], u.oneCell' = true := fun u hu => by
  simp at hu
  rcases hu with rfl | rfl | rfl <;> rfl
theorem box_ne {w : World} {B b n : Nat} {a : Option Addr} {f : Nat → Bool} {t : TypeId} {x y z m : Value} (h : OwnB w B a n f) (hn : 0 < n) (hb : Box4 w b t x y z m) (he : 4 ≠ t) : ∀ p, a = some p → p.block ≠ b := fun p hp eq => by
  rcases h with h | ⟨b', k, G, hB, ha, ⟨c, hc, _⟩, hm, hG⟩
  · omega
  · rw [ha] at hp
    cases hp
    obtain ⟨d, hd, _⟩ := hb
    have eq' : b' = b := eq
    rw [eq', hd] at hc
    cases hc
    exact he rfl
theorem World.heap_alloc_lt (w : World) (o : Obj) (k : Nat) (h : k < w.heap.size) : (w.alloc o).heap[k]? = w.heap[k]? := by
  show (w.heap.push o)[k]? = _
  rw [Array.getElem?_push, if_neg (by omega)]
theorem boxown_ne {w : World} {b base g k size : Nat} {t e : TypeId} {x y z m v : Value} {xs : List Value} (hb : Box4 w b t x y z m) (ho : w.ownsRow base e size v k xs) (hv : ∃ c, v = .slice (some ⟨g, 0, none⟩) k c) (he : t ≠ e) : b ≠ g := fun eq => by
  obtain ⟨cc, hvc⟩ := hv
  obtain ⟨d, hd, _⟩ := hb
  obtain ⟨_, ⟨hv0, _⟩ | ⟨g', cap, cur, hv', _, hh, _⟩⟩ := ho
  · rw [hvc] at hv0; cases hv0
  · rw [hvc] at hv'
    cases hv'
    rw [eq, hh] at hd
    cases hd
    exact he rfl
theorem boxPown_ne {w : World} {b base g k size : Nat} {t e : TypeId} {x y z v : Value} {xs : List Value} (hb : BoxP w b t x y z) (ho : w.ownsRow base e size v k xs) (hv : ∃ c, v = .slice (some ⟨g, 0, none⟩) k c) (he : t ≠ e) : b ≠ g := fun eq => by
  obtain ⟨cc, hvc⟩ := hv
  obtain ⟨d, hd, _⟩ := hb
  obtain ⟨_, ⟨hv0, _⟩ | ⟨g', cap, cur, hv', _, hh, _⟩⟩ := ho
  · rw [hvc] at hv0; cases hv0
  · rw [hvc] at hv'
    cases hv'
    rw [eq, hh] at hd
    cases hd
    exact he rfl
theorem pk_cells {w : World} {base g k c : Nat} {K B : ByteArray} {e : TypeId} (h : w.ownsRow base e 3 (.slice (some ⟨g, 0, none⟩) k c) k (pkL K B k)) {j : Nat} (hj : j < k * 3) : w.cell? ⟨g, j, none⟩ = some (pkC K B j) := by
  have q := h.cells (g := g) rfl j (pkC K B j) (by unfold pkL; simp [hj])
  rwa [Addr.add_lit, Nat.zero_add] at q
theorem lkNew (K : ByteArray) (hK : K.size = 32) (k : Nat) (hk : k ≤ 1000000) : LkOk K (k : Int) 0 32 (fun _ => false) := ⟨hK, by omega, by omega, rfl, by simp, fun i h1 h2 h3 => by cases h3⟩
set_option maxRecDepth 100000 in
set_option maxHeartbeats 40000000 in
theorem law_fnLink (a0 a1 : Option Addr) (n0 c0 n1 c1 : Nat) (zs0 zs1 : List Int) (w : World) (r0 : IsRow .u8 w a0 n0 c0 zs0) (r1 : IsRow .u8 w a1 n1 c1 zs1) (ht : Tabs w) :
    Calls Tryd.prog 5 #[.slice a0 n0 c0, .slice a1 n1 c1] w fun e w' => e = .returned (.bool true) ∧ Below w.heap.size w w' := by
  have m0 := r0.lenLe
  have m1 := r1.lenLe
  unfold maxLen at m0 m1
  by_cases h0 : (1048576 : Int) < (n0 : Int)
  · clear r0 r1 ht
    go_enter Tryd.func5, Tryd.ntmps5
    go_wp2
    go_ret
    exact ⟨rfl, Below.refl _ _⟩
  by_cases h1 : (1048576 : Int) < (n1 : Int)
  · clear r0 r1 ht
    go_enter Tryd.func5, Tryd.ntmps5
    go_wp2
    go_ret
    exact ⟨rfl, Below.refl _ _⟩
  obtain ⟨y0, hy0, hk0⟩ := code8_of_row r0
  obtain ⟨KM, hKM⟩ : ∃ KM, KM = kstr (byteK n0 y0 0 (n0 % 1000)) 0 32 := ⟨_, rfl⟩
  have hKs : KM.size = 32 := by rw [hKM]; exact kstr_size _ _ _
  have BO : Hid (∀ w : World, Code8 w a0 n0 y0 → Calls Tryd.prog 21 #[.slice a0 n0 c0, .int .i64 32] w fun e w' => e = .returned (.string KM) ∧ Below w.heap.size w w') := fun w h => by rw [hKM]; exact blobOf_any 32 (by omega) (by omega) a0 n0 c0 y0 hy0 (by unfold maxLen; omega) w h
  obtain ⟨x0, hx0⟩ : ∃ x, x = atN n1 zs1 0 256 := ⟨_, rfl⟩
  have lx0 : x0 < 256 := by rw [hx0]; exact atN_lt _ _ _ _ (by omega)
  have AT0 : Hid (∀ w : World, IsRow .u8 w a1 n1 c1 zs1 → Calls Tryd.prog 15 #[.slice a1 n1 c1, .int .i64 0, .int .i64 256] w fun e w' => e = .returned (.int .i64 ((x0 : Nat) : Int)) ∧ Below w.heap.size w w') := fun w h => by
    rw [hx0]
    exact (at_is a1 n1 c1 zs1 w h 0 256 (by omega) (by omega) (by omega)).mono fun e w' q => ⟨q.1, by obtain ⟨n, hn⟩ := q.2; rw [hn]; exact below_drewN _ _⟩
  obtain ⟨x1, hx1⟩ : ∃ x, x = atN n1 zs1 1 256 := ⟨_, rfl⟩
  have lx1 : x1 < 256 := by rw [hx1]; exact atN_lt _ _ _ _ (by omega)
  have AT1 : Hid (∀ w : World, IsRow .u8 w a1 n1 c1 zs1 → Calls Tryd.prog 15 #[.slice a1 n1 c1, .int .i64 1, .int .i64 256] w fun e w' => e = .returned (.int .i64 ((x1 : Nat) : Int)) ∧ Below w.heap.size w w') := fun w h => by
    rw [hx1]
    exact (at_is a1 n1 c1 zs1 w h 1 256 (by omega) (by omega) (by omega)).mono fun e w' q => ⟨q.1, by obtain ⟨n, hn⟩ := q.2; rw [hn]; exact below_drewN _ _⟩
  obtain ⟨x2, hx2⟩ : ∃ x, x = atN n1 zs1 2 100 := ⟨_, rfl⟩
  have lx2 : x2 < 100 := by rw [hx2]; exact atN_lt _ _ _ _ (by omega)
  have AT2 : Hid (∀ w : World, IsRow .u8 w a1 n1 c1 zs1 → Calls Tryd.prog 15 #[.slice a1 n1 c1, .int .i64 2, .int .i64 100] w fun e w' => e = .returned (.int .i64 ((x2 : Nat) : Int)) ∧ Below w.heap.size w w') := fun w h => by
    rw [hx2]
    exact (at_is a1 n1 c1 zs1 w h 2 100 (by omega) (by omega) (by omega)).mono fun e w' q => ⟨q.1, by obtain ⟨n, hn⟩ := q.2; rw [hn]; exact below_drewN _ _⟩
  have ATC : Hid (∀ (i : Nat) (w : World), i ≤ 100 → IsRow .u8 w a0 n0 c0 zs0 → Calls Tryd.prog 15 #[.slice a0 n0 c0, .int .i64 (i : Int), .int .i64 50] w fun e w' => (∃ j : Nat, j < 50 ∧ e = .returned (.int .i64 (j : Int))) ∧ Below w.heap.size w w') := fun i w hi h =>
    (at_is a0 n0 c0 zs0 w h i 50 (by omega) (by omega) (by omega)).mono fun e w' q => ⟨⟨_, atN_lt _ _ _ _ (by omega), q.1⟩, by obtain ⟨n, hn⟩ := q.2; rw [hn]; exact below_drewN _ _⟩
  obtain ⟨KEY, hKEY⟩ : ∃ KEY, KEY = lkey KM x0 x1 x2 := ⟨_, rfl⟩
  have hKz : KEY.size = 32 := by rw [hKEY]; exact lkey_size _ _ _ _
  have LI : Hid (∀ w : World, Tabs w → Calls Tryd.prog 20 #[.string KM, .int .i64 (x0 : Int), .int .i64 (x1 : Int), .int .i64 (x2 : Int)] w fun e w' => e = .returned (.tuple #[.string KEY, .int .i64 0]) ∧ Below w.heap.size w w') := fun w h => by rw [hKEY]; exact implLKey_ok KM x0 x1 x2 hKs (by omega) (by omega) (by omega) w h
  have LS : Hid (∀ w : World, Calls Tryd.prog 22 #[.string KM, .int .i64 (x0 : Int), .int .i64 (x1 : Int), .int .i64 (x2 : Int)] w fun e w' => e = .returned (.tuple #[.string KEY, .int .i64 0]) ∧ Below w.heap.size w w') := fun w => specLKey_any KM _ _ _ KEY 0 (.inr (.inr (.inr ⟨hKs, by omega, by rw [hKEY, Int.toNat_natCast, Int.toNat_natCast, Int.toNat_natCast], rfl⟩))) w
  have NW : Hid (∀ w : World, Calls Tryd.prog 23 #[.string KEY] w fun e w' => RetL w w' e KEY 0 0 32 (fun _ => false) 0 ∧ Below w.heap.size w w') := fun w => implNewL_any KEY KEY 32 0 (.inr (.inr ⟨hKz, rfl, rfl, rfl⟩)) w
  have HKZ : Hid (KEY.size = 32) := hKz
  have R0 : Hid (IsRow .u8 w a0 n0 c0 zs0) := r0
  have R1 : Hid (IsRow .u8 w a1 n1 c1 zs1) := r1
  have K0 : Hid (Code8 w a0 n0 y0) := hk0
  have HT : Hid (Tabs w) := ht
  clear hKM hKs hKEY hKz r0 r1 hk0 ht hy0 hx0 hx1 hx2 lx0 lx1 lx2 m0 m1
  have A1 : Hid (Below w.heap.size w w) := Below.refl _ _
  go_enter Tryd.func5, Tryd.ntmps5
  go_wp2_with fail
  refine (BO.out _ (K0.out.below A1.out)).mono ?_
  rintro e v1 ⟨rfl, hb⟩
  replace A1 : Hid (Below w.heap.size w v1) := A1.out.trans (hb.mono A1.out.size)
  clear hb 
  go_wp2_with fail
  refine (AT0.out _ (R1.out.below A1.out)).mono ?_
  rintro e v2 ⟨rfl, hb⟩
  replace A1 : Hid (Below w.heap.size w v2) := A1.out.trans (hb.mono A1.out.size)
  clear hb 
  go_wp2_with fail
  refine (AT1.out _ (R1.out.below A1.out)).mono ?_
  rintro e v3 ⟨rfl, hb⟩
  replace A1 : Hid (Below w.heap.size w v3) := A1.out.trans (hb.mono A1.out.size)
  clear hb 
  go_wp2_with fail
  refine (AT2.out _ (R1.out.below A1.out)).mono ?_
  rintro e v4 ⟨rfl, hb⟩
  replace A1 : Hid (Below w.heap.size w v4) := A1.out.trans (hb.mono A1.out.size)
  clear hb 
  go_wp2_with fail
  refine (LI.out _ (HT.out.below A1.out)).mono ?_
  rintro e v5 ⟨rfl, hb⟩
  replace A1 : Hid (Below w.heap.size w v5) := A1.out.trans (hb.mono A1.out.size)
  clear hb LI
  go_wp2_with fail
  refine (BO.out _ (K0.out.below A1.out)).mono ?_
  rintro e v6 ⟨rfl, hb⟩
  replace A1 : Hid (Below w.heap.size w v6) := A1.out.trans (hb.mono A1.out.size)
  clear hb 
  go_wp2_with fail
  refine (AT0.out _ (R1.out.below A1.out)).mono ?_
  rintro e v7 ⟨rfl, hb⟩
  replace A1 : Hid (Below w.heap.size w v7) := A1.out.trans (hb.mono A1.out.size)
  clear hb 
  go_wp2_with fail
  refine (AT1.out _ (R1.out.below A1.out)).mono ?_
  rintro e v8 ⟨rfl, hb⟩
  replace A1 : Hid (Below w.heap.size w v8) := A1.out.trans (hb.mono A1.out.size)
  clear hb 
  go_wp2_with fail
  refine (AT2.out _ (R1.out.below A1.out)).mono ?_
  rintro e v9 ⟨rfl, hb⟩
  replace A1 : Hid (Below w.heap.size w v9) := A1.out.trans (hb.mono A1.out.size)
  clear hb 
  go_wp2_with fail
  refine (LS.out _).mono ?_
  rintro e v10 ⟨rfl, hb⟩
  replace A1 : Hid (Below w.heap.size w v10) := A1.out.trans (hb.mono A1.out.size)
  clear hb LS BO AT0 AT1 AT2
  go_wp2_with fail
  refine (NW.out _).mono ?_
  rintro e v11 ⟨⟨af, cf, rfl, of⟩, hb⟩
  replace A1 : Hid (Below w.heap.size w v11) := A1.out.trans (hb.mono A1.out.size)
  have XF : Hid (OwnB v11 0 af 32 (fun _ => false)) := of.mono (Nat.zero_le _)
  clear hb of
  have WF : Hid (w.heap.size ≤ v11.heap.size) := A1.out.size
  have hb : Below v11.heap.size v11 (v11.alloc (.cells #[.string KEY, .int .i64 0, .int .i64 0, .slice af 32 cf] 52)) := (Below.refl _ _).alloc (Nat.le_refl _) _
  have PF : Hid (Box4 (v11.alloc (.cells #[.string KEY, .int .i64 0, .int .i64 0, .slice af 32 cf] 52)) v11.heap.size 52 (.string KEY) (.int .i64 0) (.int .i64 0) (.slice af 32 cf)) := Box4.madeAt rfl _ _ _ _ _
  go_wp2_with fail
  generalize (v11.alloc (.cells #[.string KEY, .int .i64 0, .int .i64 0, .slice af 32 cf] 52)) = v12 at *
  replace A1 : Hid (Below w.heap.size w v12) := A1.out.trans (hb.mono A1.out.size)
  replace XF : Hid (OwnB v12 0 af 32 (fun _ => false)) := XF.out.below hb
  clear hb 
  obtain ⟨bf, hbf⟩ : ∃ bx, bx = v11.heap.size := ⟨_, rfl⟩
  rw [← hbf] at PF WF ⊢
  clear hbf
  refine (NW.out _).mono ?_
  rintro e v13 ⟨⟨at', ct, rfl, of⟩, hb⟩
  replace A1 : Hid (Below w.heap.size w v13) := A1.out.trans (hb.mono A1.out.size)
  replace XF : Hid (OwnB v13 0 af 32 (fun _ => false)) := XF.out.below hb
  replace PF : Hid (Box4 v13 bf 52 (.string KEY) (.int .i64 0) (.int .i64 0) (.slice af 32 cf)) := PF.out.below hb
  have XT : Hid (OwnB v13 0 at' 32 (fun _ => false)) := of.mono (Nat.zero_le _)
  clear hb of NW
  have FB : Hid (bf < v13.heap.size) := PF.out.lt
  have WT : Hid (w.heap.size ≤ v13.heap.size) := A1.out.size
  have LT : Hid (∀ p, at' = some p → p.block < v13.heap.size) := XT.out.ltO (by omega)
  have hb : Below v13.heap.size v13 ((v13.alloc (.cells #[.string KEY, .int .i64 0, .int .i64 0, .slice at' 32 ct] 52)).alloc (.cells #[] 57)) := ((Below.refl v13.heap.size v13).alloc (Nat.le_refl _) _).alloc (by simp) _
  have PT : Hid (Box4 ((v13.alloc (.cells #[.string KEY, .int .i64 0, .int .i64 0, .slice at' 32 ct] 52)).alloc (.cells #[] 57)) v13.heap.size 52 (.string KEY) (.int .i64 0) (.int .i64 0) (.slice at' 32 ct)) := (Box4.madeAt rfl _ _ _ _ _).alloc _
  have OP0 : (((v13.alloc (.cells #[.string KEY, .int .i64 0, .int .i64 0, .slice at' 32 ct] 52)).alloc (.cells #[] 57)).ownsRow (v13.heap.size + 1) 57 3 (.slice (some ⟨v13.heap.size + 1, 0, none⟩) 0 0) 0 (pkL KEY ⟨#[98, 111, 100, 121]⟩ 0)) := by
    have q := World.ownsRow_made (e := 57) (size := 3) (v13.alloc (.cells #[.string KEY, .int .i64 0, .int .i64 0, .slice at' 32 ct] 52)) #[] 0 (base := v13.heap.size + 1) (by simp) (Nat.zero_le _) (by simp)
    simpa [pkL] using q
  have OP : Hid (((v13.alloc (.cells #[.string KEY, .int .i64 0, .int .i64 0, .slice at' 32 ct] 52)).alloc (.cells #[] 57)).ownsRow (v13.heap.size + 1) 57 3 (.slice (some ⟨v13.heap.size + 1, 0, none⟩) 0 0) 0 (pkL KEY ⟨#[98, 111, 100, 121]⟩ 0)) := OP0
  have S0 : Hid (v13.heap.size + 2 ≤ ((v13.alloc (.cells #[.string KEY, .int .i64 0, .int .i64 0, .slice at' 32 ct] 52)).alloc (.cells #[] 57)).heap.size) := by show _ ≤ _; simp
  clear OP0
  go_wp2_with fail
  generalize ((v13.alloc (.cells #[.string KEY, .int .i64 0, .int .i64 0, .slice at' 32 ct] 52)).alloc (.cells #[] 57)) = v50 at *
  replace A1 : Hid (Below w.heap.size w v50) := A1.out.trans (hb.mono A1.out.size)
  replace XF : Hid (OwnB v50 0 af 32 (fun _ => false)) := XF.out.below hb
  replace PF : Hid (Box4 v50 bf 52 (.string KEY) (.int .i64 0) (.int .i64 0) (.slice af 32 cf)) := PF.out.below hb
  replace XT : Hid (OwnB v50 0 at' 32 (fun _ => false)) := XT.out.below hb
  obtain ⟨bt, hbt⟩ : ∃ x, x = v13.heap.size := ⟨_, rfl⟩
  rw [← hbt] at PT OP S0 FB LT WT ⊢
  clear hb hbt
  obtain ⟨i0, hi0⟩ := info_partsP
  have HI : Hid (Tryd.prog.info? 57 = some i0 ∧ i0.zero = some (.agg #[.int .i64 0, .string ⟨#[]⟩, .string ⟨#[]⟩]) ∧ i0.size = 3 ∧ i0.bytes = 40) := hi0
  clear hi0
  go_loopw [13, 14] (fun v i wr => ∃ (k gp cp : Nat) (af : Option Addr) (cf : Nat), k ≤ 50 ∧ i = .int .i64 (k : Int) ∧ v = .slice (some ⟨gp, 0, none⟩) k cp ∧ (wr).ownsRow (bt + 1) 57 3 (.slice (some ⟨gp, 0, none⟩) k cp) k (pkL KEY ⟨#[98, 111, 100, 121]⟩ k) ∧ Box4 wr bf 52 (.string KEY) (.int .i64 (k : Int)) (.int .i64 0) (.slice af 32 cf) ∧ OwnB wr 0 af 32 (fun _ => false) ∧ Box4 wr bt 52 (.string KEY) (.int .i64 0) (.int .i64 0) (.slice at' 32 ct) ∧ OwnB wr 0 at' 32 (fun _ => false) ∧ bt + 2 ≤ wr.heap.size ∧ Below w.heap.size w wr) (fun _ i _ => 50 - (intOf i).toNat)
  case atStart => exact ⟨0, bt + 1, 0, af, cf, by omega, rfl, rfl, OP.out, PF.out, XF.out, PT.out, XT.out, S0.out, A1.out⟩
  case round =>
    clear OP PF XF PT XT S0 A1
    obtain ⟨k, gp, cp, af, cf, hk, rfl, rfl, op, pf, xf, pt, xt, s0, ha⟩ := hrel
    have OP : Hid ((wr).ownsRow (bt + 1) 57 3 (.slice (some ⟨gp, 0, none⟩) k cp) k (pkL KEY ⟨#[98, 111, 100, 121]⟩ k)) := op
    have PF : Hid (Box4 wr bf 52 (.string KEY) (.int .i64 (k : Int)) (.int .i64 0) (.slice af 32 cf)) := pf
    have XF : Hid (OwnB wr 0 af 32 (fun _ => false)) := xf
    have PT : Hid (Box4 wr bt 52 (.string KEY) (.int .i64 0) (.int .i64 0) (.slice at' 32 ct)) := pt
    have XT : Hid (OwnB wr 0 at' 32 (fun _ => false)) := xt
    have S0 : Hid (bt + 2 ≤ (wr).heap.size) := s0
    have A1 : Hid (Below w.heap.size w wr) := ha
    clear op pf xf pt xt s0 ha
    by_cases hlt : k < 50
    · have k0 : (k : Int) < 50 := by omega
      have k1 : (0 : Int) ≤ (k : Int) := by omega
      obtain ⟨TG, hTG⟩ : ∃ TG, TG = ptag KEY ⟨#[98, 111, 100, 121]⟩ (k + 1) := ⟨_, rfl⟩
      have eN : ((k : Int) + 1).toNat = k + 1 := by omega
      have SD : Hid (∀ w : World, Bools w af 32 (fun _ => false) → Tabs w → Calls Tryd.prog 24 #[.agg #[.string KEY, .int .i64 (k : Int), .int .i64 0, .slice af 32 cf], .string ⟨#[98, 111, 100, 121]⟩] w fun e w' => RetS w w' e KEY ((k : Int) + 1) 0 32 (fun _ => false) ((k : Int) + 1) ⟨#[98, 111, 100, 121]⟩ TG 0 ∧ Below w.heap.size w w') := fun w h h2 => by
        have q := implSend_ok KEY ⟨#[98, 111, 100, 121]⟩ (k : Int) 0 af cf (fun _ => false) (by decide) (lkNew KEY HKZ.out k (by omega)) (by omega) w h h2
        rw [eN, ← hTG] at q
        exact q
      have PA : PtA KEY ⟨#[98, 111, 100, 121]⟩ ((k : Int) + 1) TG 0 := .inr (.inr (.inr ⟨HKZ.out, by decide, by omega, by rw [eN, hTG], rfl⟩))
      have PI : Hid (∀ w : World, Tabs w → Calls Tryd.prog 25 #[.string KEY, .int .i64 ((k : Int) + 1), .string ⟨#[98, 111, 100, 121]⟩] w fun e w' => e = .returned (.tuple #[.string TG, .int .i64 0]) ∧ Below w.heap.size w w') := fun w h => implPTag_any KEY ⟨#[98, 111, 100, 121]⟩ _ TG 0 PA w h
      have PS : Hid (∀ w : World, Calls Tryd.prog 26 #[.string KEY, .int .i64 ((k : Int) + 1), .string ⟨#[98, 111, 100, 121]⟩] w fun e w' => e = .returned (.tuple #[.string TG, .int .i64 0]) ∧ Below w.heap.size w w') := fun w => specPTag_any KEY ⟨#[98, 111, 100, 121]⟩ _ TG 0 PA w
      have HTG : Hid (TG = ptag KEY ⟨#[98, 111, 100, 121]⟩ (k + 1)) := hTG
      clear hTG eN PA
      have t0 := PF.out.c0
      have t1 := PF.out.c1
      have t2 := PF.out.c2
      have t3 := PF.out.c3
      go_wp2_with fail
      clear t0 t1 t2 t3
      refine (SD.out _ XF.out.bools (HT.out.below A1.out)).mono ?_
      rintro e v14 ⟨⟨an, cn, rfl, on⟩, hb⟩
      replace A1 : Hid (Below w.heap.size w v14) := A1.out.trans (hb.mono A1.out.size)
      replace OP : Hid ((v14).ownsRow (bt + 1) 57 3 (.slice (some ⟨gp, 0, none⟩) k cp) k (pkL KEY ⟨#[98, 111, 100, 121]⟩ k)) := ownsRow_below OP.out hb
      replace PF : Hid (Box4 v14 bf 52 (.string KEY) (.int .i64 (k : Int)) (.int .i64 0) (.slice af 32 cf)) := PF.out.below hb
      replace XF : Hid (OwnB v14 0 af 32 (fun _ => false)) := XF.out.below hb
      replace PT : Hid (Box4 v14 bt 52 (.string KEY) (.int .i64 0) (.int .i64 0) (.slice at' 32 ct)) := PT.out.below hb
      replace XT : Hid (OwnB v14 0 at' 32 (fun _ => false)) := XT.out.below hb
      replace S0 : Hid (bt + 2 ≤ (v14).heap.size) := Nat.le_trans S0.out hb.size
      have XN : Hid (OwnB v14 0 an 32 (fun _ => false)) := on.mono (Nat.zero_le _)
      clear hb on SD
      clear XF
      have NF : Hid (bf < v14.heap.size) := PF.out.lt
      have hb : Below v14.heap.size v14 ((v14.alloc (.cells #[.string KEY, .int .i64 ((k : Int) + 1), .int .i64 0, .slice an 32 cn] 52)).alloc (.cells #[.int .i64 ((k : Int) + 1), .string ⟨#[98, 111, 100, 121]⟩, .string TG] 57)) := ((Below.refl v14.heap.size v14).alloc (Nat.le_refl _) _).alloc (by simp) _
      have PN : Hid (Box4 ((v14.alloc (.cells #[.string KEY, .int .i64 ((k : Int) + 1), .int .i64 0, .slice an 32 cn] 52)).alloc (.cells #[.int .i64 ((k : Int) + 1), .string ⟨#[98, 111, 100, 121]⟩, .string TG] 57)) v14.heap.size 52 (.string KEY) (.int .i64 ((k : Int) + 1)) (.int .i64 0) (.slice an 32 cn)) := (Box4.madeAt rfl _ _ _ _ _).alloc _
      have QN : Hid (BoxP ((v14.alloc (.cells #[.string KEY, .int .i64 ((k : Int) + 1), .int .i64 0, .slice an 32 cn] 52)).alloc (.cells #[.int .i64 ((k : Int) + 1), .string ⟨#[98, 111, 100, 121]⟩, .string TG] 57)) (v14.heap.size + 1) 57 (.int .i64 ((k : Int) + 1)) (.string ⟨#[98, 111, 100, 121]⟩) (.string TG)) := BoxP.madeAt (by simp) _ _ _ _
      go_wp2_with fail
      generalize ((v14.alloc (.cells #[.string KEY, .int .i64 ((k : Int) + 1), .int .i64 0, .slice an 32 cn] 52)).alloc (.cells #[.int .i64 ((k : Int) + 1), .string ⟨#[98, 111, 100, 121]⟩, .string TG] 57)) = v15 at *
      replace A1 : Hid (Below w.heap.size w v15) := A1.out.trans (hb.mono A1.out.size)
      replace OP : Hid ((v15).ownsRow (bt + 1) 57 3 (.slice (some ⟨gp, 0, none⟩) k cp) k (pkL KEY ⟨#[98, 111, 100, 121]⟩ k)) := ownsRow_below OP.out hb
      replace PF : Hid (Box4 v15 bf 52 (.string KEY) (.int .i64 (k : Int)) (.int .i64 0) (.slice af 32 cf)) := PF.out.below hb
      replace PT : Hid (Box4 v15 bt 52 (.string KEY) (.int .i64 0) (.int .i64 0) (.slice at' 32 ct)) := PT.out.below hb
      replace XT : Hid (OwnB v15 0 at' 32 (fun _ => false)) := XT.out.below hb
      replace S0 : Hid (bt + 2 ≤ (v15).heap.size) := Nat.le_trans S0.out hb.size
      replace XN : Hid (OwnB v15 0 an 32 (fun _ => false)) := XN.out.below hb
      clear hb
      obtain ⟨bn, hbn⟩ : ∃ bx, bx = v14.heap.size := ⟨_, rfl⟩
      rw [← hbn] at PN QN NF ⊢
      clear hbn
      refine (PI.out _ (HT.out.below A1.out)).mono ?_
      rintro e v16 ⟨rfl, hb⟩
      replace A1 : Hid (Below w.heap.size w v16) := A1.out.trans (hb.mono A1.out.size)
      replace OP : Hid ((v16).ownsRow (bt + 1) 57 3 (.slice (some ⟨gp, 0, none⟩) k cp) k (pkL KEY ⟨#[98, 111, 100, 121]⟩ k)) := ownsRow_below OP.out hb
      replace PF : Hid (Box4 v16 bf 52 (.string KEY) (.int .i64 (k : Int)) (.int .i64 0) (.slice af 32 cf)) := PF.out.below hb
      replace PT : Hid (Box4 v16 bt 52 (.string KEY) (.int .i64 0) (.int .i64 0) (.slice at' 32 ct)) := PT.out.below hb
      replace XT : Hid (OwnB v16 0 at' 32 (fun _ => false)) := XT.out.below hb
      replace S0 : Hid (bt + 2 ≤ (v16).heap.size) := Nat.le_trans S0.out hb.size
      replace XN : Hid (OwnB v16 0 an 32 (fun _ => false)) := XN.out.below hb
      replace PN : Hid (Box4 v16 bn 52 (.string KEY) (.int .i64 ((k : Int) + 1)) (.int .i64 0) (.slice an 32 cn)) := PN.out.below hb
      replace QN : Hid (BoxP v16 (bn + 1) 57 (.int .i64 ((k : Int) + 1)) (.string ⟨#[98, 111, 100, 121]⟩) (.string TG)) := QN.out.below hb
      clear hb PI
      go_wp2_with fail
      refine (PS.out _).mono ?_
      rintro e v17 ⟨rfl, hb⟩
      replace A1 : Hid (Below w.heap.size w v17) := A1.out.trans (hb.mono A1.out.size)
      replace OP : Hid ((v17).ownsRow (bt + 1) 57 3 (.slice (some ⟨gp, 0, none⟩) k cp) k (pkL KEY ⟨#[98, 111, 100, 121]⟩ k)) := ownsRow_below OP.out hb
      replace PF : Hid (Box4 v17 bf 52 (.string KEY) (.int .i64 (k : Int)) (.int .i64 0) (.slice af 32 cf)) := PF.out.below hb
      replace PT : Hid (Box4 v17 bt 52 (.string KEY) (.int .i64 0) (.int .i64 0) (.slice at' 32 ct)) := PT.out.below hb
      replace XT : Hid (OwnB v17 0 at' 32 (fun _ => false)) := XT.out.below hb
      replace S0 : Hid (bt + 2 ≤ (v17).heap.size) := Nat.le_trans S0.out hb.size
      replace XN : Hid (OwnB v17 0 an 32 (fun _ => false)) := XN.out.below hb
      replace PN : Hid (Box4 v17 bn 52 (.string KEY) (.int .i64 ((k : Int) + 1)) (.int .i64 0) (.slice an 32 cn)) := PN.out.below hb
      replace QN : Hid (BoxP v17 (bn + 1) 57 (.int .i64 ((k : Int) + 1)) (.string ⟨#[98, 111, 100, 121]⟩) (.string TG)) := QN.out.below hb
      clear hb PS
      have q0 := QN.out.c0
      have q1 := QN.out.c1
      have q2 := QN.out.c2
      go_upto_region 18 with fail
      clear q0 q1 q2
      have t0 := PN.out.c0
      have t1 := PN.out.c1
      have t2 := PN.out.c2
      have t3 := PN.out.c3
      have pf0 := PF.out.c0
      have ff0 := PF.out.fr 0
      have pf1 := PF.out.c1
      have ff1 := PF.out.fr 1
      have pf2 := PF.out.c2
      have ff2 := PF.out.fr 2
      have pf3 := PF.out.c3
      have ff3 := PF.out.fr 3
      obtain ⟨U, hU⟩ : ∃ U, U = ((((v17.setCell ⟨bf, 0, none⟩ (.string KEY)).setCell ⟨bf, 1, none⟩ (.int .i64 ((k : Int) + 1))).setCell ⟨bf, 2, none⟩ (.int .i64 0)).setCell ⟨bf, 3, none⟩ (.slice an 32 cn)) := ⟨_, rfl⟩
      have ho : OnlyB bf v17 U := by rw [hU]; exact ((((OnlyB.refl _ _).setCell 0 _).setCell 1 _).setCell 2 _).setCell 3 _
      have NP : Hid (∀ p, an = some p → p.block ≠ gp) := types_ne XN.out (by omega) OP.out ⟨_, rfl⟩ (by decide)
      have GP : Hid (bt + 1 ≤ gp) := (OP.out.lt gp rfl).1
      have NB : Hid (∀ p, an = some p → p.block ≠ bf) := box_ne XN.out (by omega) PF.out (by decide)
      have P2 : Hid (Box4 U bf 52 (.string KEY) (.int .i64 ((k : Int) + 1)) (.int .i64 0) (.slice an 32 cn)) := by rw [hU]; exact (((PF.out.set0 _).set1 _).set2 _).set3 _
      have T2 : Hid (Box4 U bt 52 (.string KEY) (.int .i64 0) (.int .i64 0) (.slice at' 32 ct)) := PT.out.onlyB ho (by have := FB.out; omega)
      have XT2 : Hid (OwnB U 0 at' 32 (fun _ => false)) := XT.out.one ho (fun p hp => box_ne XT.out (by omega) PF.out (by decide) p hp)
      have XN2 : Hid (OwnB U 0 an 32 (fun _ => false)) := XN.out.one ho NB.out
      have Q2 : Hid (BoxP U (bn + 1) 57 (.int .i64 ((k : Int) + 1)) (.string ⟨#[98, 111, 100, 121]⟩) (.string TG)) := QN.out.onlyB ho (by have := NF.out; omega)
      have O2 : Hid ((U).ownsRow (bt + 1) 57 3 (.slice (some ⟨gp, 0, none⟩) k cp) k (pkL KEY ⟨#[98, 111, 100, 121]⟩ k)) := OP.out.kept ⟨ho.os, ho.tape, ho.output, ho.size, fun k hk hne => ho.block k hk (fun e => hne (by rw [e]))⟩ (.inr (fun e => by have h1 := GP.out; have h2 := FB.out; have e' : some gp = some bf := e; cases e'; omega))
      have S2 : Hid (bt + 2 ≤ U.heap.size) := Nat.le_trans S0.out ho.size
      have A2 : Hid (Below w.heap.size w U) := A1.out.trans (ho.toBelow (B := w.heap.size) WF.out A1.out.size)
      have HU : Hid (U = ((((v17.setCell ⟨bf, 0, none⟩ (.string KEY)).setCell ⟨bf, 1, none⟩ (.int .i64 ((k : Int) + 1))).setCell ⟨bf, 2, none⟩ (.int .i64 0)).setCell ⟨bf, 3, none⟩ (.slice an 32 cn))) := hU
      clear hU ho PF PT XT XN QN OP S0 A1 NB
      go_upto_region 19 with fail
      rw [← HU.out]
      clear t0 t1 t2 t3
      clear pf0 ff0
      clear pf1 ff1
      clear pf2 ff2
      clear pf3 ff3
      clear HU PN
      have q0 := Q2.out.c0
      have q1 := Q2.out.c1
      have q2 := Q2.out.c2
      have hsU : bt + 1 ≤ U.heap.size := by have := S2.out; omega
      go_wp2_with (at_builtin; refine wpList_append_own _ rfl _ _ 55 rfl (bt + 1) 57 i0 (.agg #[.int .i64 0, .string ⟨#[]⟩, .string ⟨#[]⟩]) 3 40 Tryd.underlying55 HI.out.1 HI.out.2.1 HI.out.2.2.1 HI.out.2.2.2 rfl (by decide) (.slice (some ⟨gp, 0, none⟩) k cp) k _ rfl (O2.out.alloc _) ⟨U.heap.size, 0, none⟩ 1 1 [.int .i64 ((k : Int) + 1), .string ⟨#[98, 111, 100, 121]⟩, .string TG] rfl rfl (three_new _ _ _ _ _) (three_one _ _ _) (by unfold maxLen; omega) (by omega) (by simp; omega) ?_)
      intro v' w9 hown hgrow hnil
      have hown' : w9.ownsRow (bt + 1) 57 3 v' (k + 1) (pkL KEY ⟨#[98, 111, 100, 121]⟩ (k + 1)) := by
        rw [← pkL_next, ← HTG.out]
        have e : ((k + 1 : Nat) : Int) = (k : Int) + 1 := by omega
        rw [e]
        exact hown
      obtain ⟨g2, c2, rfl, hg2, -⟩ := owned_some hown' (by omega)
      have BG : Below (bt + 1) U w9 := ((Below.refl (bt + 1) U).alloc hsU _).grown hgrow (by simp; omega) (fun k hk => by have e : some gp = some k := hk; cases e; exact GP.out)
      have O9 : Hid (w9.ownsRow (bt + 1) 57 3 (.slice (some ⟨g2, 0, none⟩) (k + 1) c2) (k + 1) (pkL KEY ⟨#[98, 111, 100, 121]⟩ (k + 1))) := hown'
      have P9 : Hid (Box4 w9 bf 52 (.string KEY) (.int .i64 ((k : Int) + 1)) (.int .i64 0) (.slice an 32 cn)) := P2.out.ofBlock (BG.block _ (by have := FB.out; omega))
      have T9 : Hid (Box4 w9 bt 52 (.string KEY) (.int .i64 0) (.int .i64 0) (.slice at' 32 ct)) := T2.out.ofBlock (BG.block _ (by omega))
      have XT9 : Hid (OwnB w9 0 at' 32 (fun _ => false)) := XT2.out.blk (fun p hp => BG.block _ (by have := LT.out p hp; omega))
      have XN9 : Hid (OwnB w9 0 an 32 (fun _ => false)) := XN2.out.blk (fun p hp => by
        have h1 := XN2.out.ltO (by omega) p hp
        have h2 := hgrow.block p.block (by simp; omega) (fun e => NP.out p hp (Option.some.inj e))
        rw [h2]
        exact World.heap_alloc_lt U _ p.block h1)
      have S9 : Hid (bt + 2 ≤ w9.heap.size) := Nat.le_trans S2.out BG.size
      have A9 : Hid (Below w.heap.size w w9) := A2.out.trans (BG.mono (by have := WT.out; omega))
      have P8 : Hid (Box4 w9 bf 52 (.string KEY) (.int .i64 ((k + 1 : Nat) : Int)) (.int .i64 0) (.slice an 32 cn)) := by
        have e : ((k + 1 : Nat) : Int) = (k : Int) + 1 := by omega
        rw [e]
        exact P9.out
      clear hown hown' hgrow hnil BG q0 q1 q2 O2 P2 T2 XT2 XN2 Q2 S2 A2 NP
      go_wp2
      go_roundw
      case rel => exact ⟨k + 1, g2, c2, an, cn, by omega, by go_num, rfl, O9.out, P8.out, XN9.out, T9.out, XT9.out, S9.out, A9.out⟩
      case measure => simp [intOf]; omega
    · have k0 : ¬ (k : Int) < 50 := by omega
      have K50 : Hid (k = 50) := by show k = 50; omega
      have hb : Below wr.heap.size wr (wr.alloc (.cells #[] 3)) := (Below.refl _ _).alloc (Nat.le_refl _) _
      have OT0 : (wr.alloc (.cells #[] 3)).ownsRow wr.heap.size 3 1 (.slice (some ⟨wr.heap.size, 0, none⟩) 0 0) 0 (nvL 0 (fun _ => 0)) := by
        have q := World.ownsRow_made (e := 3) (size := 1) wr #[] 0 (base := wr.heap.size) (Nat.le_refl _) (Nat.zero_le _) (by simp)
        simpa [nvL] using q
      have OT : Hid ((wr.alloc (.cells #[] 3)).ownsRow wr.heap.size 3 1 (.slice (some ⟨wr.heap.size, 0, none⟩) 0 0) 0 (nvL 0 (fun _ => 0))) := OT0
      have GL : Hid (gp < wr.heap.size) := (OP.out.lt gp rfl).2
      have GP : Hid (bt + 1 ≤ gp) := (OP.out.lt gp rfl).1
      have S3 : Hid (wr.heap.size + 1 ≤ (wr.alloc (.cells #[] 3)).heap.size) := by show _ ≤ _; simp
      clear OT0 hlt XF PF
      go_wp2_with fail
      generalize (wr.alloc (.cells #[] 3)) = v60 at *
      replace A1 : Hid (Below w.heap.size w v60) := A1.out.trans (hb.mono A1.out.size)
      replace OP : Hid ((v60).ownsRow (bt + 1) 57 3 (.slice (some ⟨gp, 0, none⟩) k cp) k (pkL KEY ⟨#[98, 111, 100, 121]⟩ k)) := ownsRow_below OP.out hb
      replace PT : Hid (Box4 v60 bt 52 (.string KEY) (.int .i64 0) (.int .i64 0) (.slice at' 32 ct)) := PT.out.below hb
      replace XT : Hid (OwnB v60 0 at' 32 (fun _ => false)) := XT.out.below hb
      replace S0 : Hid (bt + 2 ≤ (v60).heap.size) := Nat.le_trans S0.out hb.size
      obtain ⟨b2, hb2⟩ : ∃ x, x = wr.heap.size := ⟨_, rfl⟩
      rw [← hb2] at OT S3 GL ⊢
      have S4 : Hid (bt + 2 ≤ b2) := by have h1 := GP.out; have h2 := GL.out; show _ ≤ _; omega
      clear hb hb2 S0 HI i0
      obtain ⟨i1, hi1⟩ := info_partsI
      have HJ : Hid (Tryd.prog.info? 3 = some i1 ∧ i1.zero = some (.int .i64 0) ∧ i1.size = 1 ∧ i1.bytes = 8) := hi1
      clear hi1
      go_loopw [22, 23, 24] (fun tv pv i wx => ∃ (kk m gt ct t : Nat) (TK : Nat → Nat) (F : Nat → Bool) (aq : Option Addr) (cq : Nat), kk ≤ 60 ∧ m ≤ kk ∧ t ≤ 50 ∧ i = .int .i64 (kk : Int) ∧ pv = .int .i64 (t : Int) ∧ tv = .slice (some ⟨gt, 0, none⟩) m ct ∧ Tak t F m TK ∧ LkOk KEY 0 (t : Int) 32 F ∧ (wx).ownsRow b2 3 1 (.slice (some ⟨gt, 0, none⟩) m ct) m (nvL m TK) ∧ (wx).ownsRow (bt + 1) 57 3 (.slice (some ⟨gp, 0, none⟩) k cp) k (pkL KEY ⟨#[98, 111, 100, 121]⟩ k) ∧ Box4 wx bt 52 (.string KEY) (.int .i64 0) (.int .i64 (t : Int)) (.slice aq 32 cq) ∧ OwnB wx 0 aq 32 F ∧ b2 + 1 ≤ wx.heap.size ∧ Below w.heap.size w wx) (fun _ _ i _ => 60 - (intOf i).toNat)
      case atStart => exact ⟨0, 0, b2, 0, 0, fun _ => 0, fun _ => false, at', ct, by omega, by omega, by omega, rfl, rfl, rfl, ⟨fun j hj => absurd hj (by omega), fun q h1 h2 => absurd h2 (by omega)⟩, lkNew KEY HKZ.out 0 (by omega), OT.out, OP.out, PT.out, XT.out, S3.out, A1.out⟩
      case round =>
        clear OT OP PT XT S3 A1
        obtain ⟨kk, m, gt, ct, t, TK, F, aq, cq, hk2, hm, htt, rfl, rfl, rfl, tak, lko, ot, op, pt, xt, s3, ha⟩ := hrel
        have TK0 : Hid (Tak t F m TK) := tak
        have LK0 : Hid (LkOk KEY 0 (t : Int) 32 F) := lko
        have OT : Hid ((wr).ownsRow b2 3 1 (.slice (some ⟨gt, 0, none⟩) m ct) m (nvL m TK)) := ot
        have OP : Hid ((wr).ownsRow (bt + 1) 57 3 (.slice (some ⟨gp, 0, none⟩) k cp) k (pkL KEY ⟨#[98, 111, 100, 121]⟩ k)) := op
        have PT : Hid (Box4 wr bt 52 (.string KEY) (.int .i64 0) (.int .i64 (t : Int)) (.slice aq 32 cq)) := pt
        have XT : Hid (OwnB wr 0 aq 32 F) := xt
        have S3 : Hid (b2 + 1 ≤ (wr).heap.size) := s3
        have A1 : Hid (Below w.heap.size w wr) := ha
        clear tak lko ot op pt xt s3 ha
        by_cases hlt : kk < 60
        · have k60 : (kk : Int) < 60 := by omega
          have kk0 : (0 : Int) ≤ (kk : Int) := by omega
          have t0 : (0 : Int) ≤ (t : Int) := by omega
          have t50 : (t : Int) ≤ 50 := by omega
          go_wp2_with fail
          refine (ATC.out kk _ (by omega) (R0.out.below A1.out)).mono ?_
          rintro e v18 ⟨⟨j, hj, rfl⟩, hb⟩
          replace A1 : Hid (Below w.heap.size w v18) := A1.out.trans (hb.mono A1.out.size)
          replace OT : Hid ((v18).ownsRow b2 3 1 (.slice (some ⟨gt, 0, none⟩) m ct) m (nvL m TK)) := ownsRow_below OT.out hb
          replace OP : Hid ((v18).ownsRow (bt + 1) 57 3 (.slice (some ⟨gp, 0, none⟩) k cp) k (pkL KEY ⟨#[98, 111, 100, 121]⟩ k)) := ownsRow_below OP.out hb
          replace PT : Hid (Box4 v18 bt 52 (.string KEY) (.int .i64 0) (.int .i64 (t : Int)) (.slice aq 32 cq)) := PT.out.below hb
          replace XT : Hid (OwnB v18 0 aq 32 F) := XT.out.below hb
          replace S3 : Hid (b2 + 1 ≤ (v18).heap.size) := Nat.le_trans S3.out hb.size
          clear hb 
          obtain ⟨x, hx⟩ : ∃ x, x = j + 1 := ⟨_, rfl⟩
          obtain ⟨TX, hTX⟩ : ∃ TX, TX = ptag KEY ⟨#[98, 111, 100, 121]⟩ x := ⟨_, rfl⟩
          have d0 := pk_cells OP.out (j := j * 3) (by have := K50.out; omega)
          have d1 := pk_cells OP.out (j := j * 3 + 1) (by have := K50.out; omega)
          have d2 := pk_cells OP.out (j := j * 3 + 2) (by have := K50.out; omega)
          rw [pkC0, ← hx] at d0
          rw [pkC1] at d1
          rw [pkC2, ← hx, ← hTX] at d2
          have jk : (j : Int) < (k : Int) := by have := K50.out; omega
          have j0 : (0 : Int) ≤ (j : Int) := by omega
          have hb : Below v18.heap.size v18 (v18.alloc (.cells #[.int .i64 (x : Int), .string ⟨#[98, 111, 100, 121]⟩, .string TX] 57)) := (Below.refl _ _).alloc (Nat.le_refl _) _
          have QQ : Hid (BoxP (v18.alloc (.cells #[.int .i64 (x : Int), .string ⟨#[98, 111, 100, 121]⟩, .string TX] 57)) v18.heap.size 57 (.int .i64 (x : Int)) (.string ⟨#[98, 111, 100, 121]⟩) (.string TX)) := BoxP.madeAt rfl _ _ _ _
          have w0' := (PT.out.below hb).c0
          have w1' := (PT.out.below hb).c1
          have w2' := (PT.out.below hb).c2
          have w3' := (PT.out.below hb).c3
          have HX : Hid (1 ≤ x ∧ x ≤ 50) := by show _ ∧ _; omega
          have HTX : Hid (TX = ptag KEY ⟨#[98, 111, 100, 121]⟩ x) := hTX
          clear hx hTX hj
          go_wp2_with fail
          clear w0' w1' w2' w3' d0 d1 d2 jk j0
          generalize (v18.alloc (.cells #[.int .i64 (x : Int), .string ⟨#[98, 111, 100, 121]⟩, .string TX] 57)) = v19 at *
          replace A1 : Hid (Below w.heap.size w v19) := A1.out.trans (hb.mono A1.out.size)
          replace OT : Hid ((v19).ownsRow b2 3 1 (.slice (some ⟨gt, 0, none⟩) m ct) m (nvL m TK)) := ownsRow_below OT.out hb
          replace OP : Hid ((v19).ownsRow (bt + 1) 57 3 (.slice (some ⟨gp, 0, none⟩) k cp) k (pkL KEY ⟨#[98, 111, 100, 121]⟩ k)) := ownsRow_below OP.out hb
          replace PT : Hid (Box4 v19 bt 52 (.string KEY) (.int .i64 0) (.int .i64 (t : Int)) (.slice aq 32 cq)) := PT.out.below hb
          replace XT : Hid (OwnB v19 0 aq 32 F) := XT.out.below hb
          replace S3 : Hid (b2 + 1 ≤ (v19).heap.size) := Nat.le_trans S3.out hb.size
          obtain ⟨bq, hbq⟩ : ∃ x, x = v18.heap.size := ⟨_, rfl⟩
          rw [← hbq] at QQ ⊢
          clear hb hbq
          obtain ⟨code, hd⟩ := due_ex t m TK x
          have hC : TkC KEY (t : Int) F (x : Int) ⟨#[98, 111, 100, 121]⟩ TX code := due_tkC (by have := HX.out; omega) HTX.out TK0.out hd
          rcases hd with ⟨g1, rfl⟩ | ⟨g1, g2, rfl⟩ | ⟨g1, g2, rfl⟩
          · skip
            have x0 : (0 : Int) ≤ (x : Int) := by have := HX.out; omega
            have x50 : (x : Int) ≤ 50 := by have := HX.out; omega
            have TA : TkA KEY 0 (t : Int) 32 F (x : Int) ⟨#[98, 111, 100, 121]⟩ TX KEY 0 (t : Int) 32 F 15 := .inr (.inl ⟨LK0.out, hC, by omega, rfl, rfl, rfl, rfl, rfl⟩)
            have IT : Hid (∀ w : World, Bools w aq 32 F → Tabs w → Calls Tryd.prog 27 #[.agg #[.string KEY, .int .i64 0, .int .i64 (t : Int), .slice aq 32 cq], .agg #[.int .i64 (x : Int), .string ⟨#[98, 111, 100, 121]⟩, .string TX]] w fun e w' => RetL w w' e KEY 0 (t : Int) 32 F 15 ∧ Below w.heap.size w w') := fun w h h2 => implTake_any _ _ _ _ _ _ _ _ _ _ _ _ _ _ _ _ TA (by decide) w h h2
            have ST : Hid (∀ w : World, Bools w aq 32 F → Calls Tryd.prog 28 #[.agg #[.string KEY, .int .i64 0, .int .i64 (t : Int), .slice aq 32 cq], .agg #[.int .i64 (x : Int), .string ⟨#[98, 111, 100, 121]⟩, .string TX]] w fun e w' => RetL w w' e KEY 0 (t : Int) 32 F 15 ∧ Below w.heap.size w w') := fun w h => specTake_any _ _ _ _ _ _ _ _ _ _ _ _ _ _ _ _ TA (by decide) w h
            have L2 : Hid (LkOk KEY 0 (t : Int) 32 F) := LK0.out
            have LO : Hid (∀ (a : Option Addr) (c : Nat) (w : World), Bools w a 32 F → Calls Tryd.prog 30 #[.agg #[.string KEY, .int .i64 0, .int .i64 (t : Int), .slice a 32 c]] w fun e w' => e = .returned (.bool true) ∧ Below w.heap.size w w') := fun a c w h => implLinkOK_any KEY 0 (t : Int) a 32 c F true (by simpa using L2.out) w h
            have c1 : (x : Int) ≤ (t : Int) - 32 := by omega
            clear TA hC g1
            refine (IT.out _ XT.out.bools (HT.out.below A1.out)).mono ?_
            rintro e v20 ⟨⟨au, cu, rfl, ou⟩, hb⟩
            replace A1 : Hid (Below w.heap.size w v20) := A1.out.trans (hb.mono A1.out.size)
            replace OT : Hid ((v20).ownsRow b2 3 1 (.slice (some ⟨gt, 0, none⟩) m ct) m (nvL m TK)) := ownsRow_below OT.out hb
            replace OP : Hid ((v20).ownsRow (bt + 1) 57 3 (.slice (some ⟨gp, 0, none⟩) k cp) k (pkL KEY ⟨#[98, 111, 100, 121]⟩ k)) := ownsRow_below OP.out hb
            replace PT : Hid (Box4 v20 bt 52 (.string KEY) (.int .i64 0) (.int .i64 (t : Int)) (.slice aq 32 cq)) := PT.out.below hb
            replace XT : Hid (OwnB v20 0 aq 32 F) := XT.out.below hb
            replace S3 : Hid (b2 + 1 ≤ (v20).heap.size) := Nat.le_trans S3.out hb.size
            replace QQ : Hid (BoxP v20 bq 57 (.int .i64 (x : Int)) (.string ⟨#[98, 111, 100, 121]⟩) (.string TX)) := QQ.out.below hb
            have XU : Hid (OwnB v20 0 au 32 F) := ou.mono (Nat.zero_le _)
            clear hb ou IT
            have hb : Below v20.heap.size v20 (v20.alloc (.cells #[.string KEY, .int .i64 0, .int .i64 (t : Int), .slice au 32 cu] 52)) := (Below.refl _ _).alloc (Nat.le_refl _) _
            have PU : Hid (Box4 (v20.alloc (.cells #[.string KEY, .int .i64 0, .int .i64 (t : Int), .slice au 32 cu] 52)) v20.heap.size 52 (.string KEY) (.int .i64 0) (.int .i64 (t : Int)) (.slice au 32 cu)) := Box4.madeAt rfl _ _ _ _ _
            have vt0 := (PT.out.below hb).c0
            have vt1 := (PT.out.below hb).c1
            have vt2 := (PT.out.below hb).c2
            have vt3 := (PT.out.below hb).c3
            have vq0 := (QQ.out.below hb).c0
            have vq1 := (QQ.out.below hb).c1
            have vq2 := (QQ.out.below hb).c2
            go_wp2_with fail
            generalize (v20.alloc (.cells #[.string KEY, .int .i64 0, .int .i64 (t : Int), .slice au 32 cu] 52)) = v21 at *
            replace A1 : Hid (Below w.heap.size w v21) := A1.out.trans (hb.mono A1.out.size)
            replace OT : Hid ((v21).ownsRow b2 3 1 (.slice (some ⟨gt, 0, none⟩) m ct) m (nvL m TK)) := ownsRow_below OT.out hb
            replace OP : Hid ((v21).ownsRow (bt + 1) 57 3 (.slice (some ⟨gp, 0, none⟩) k cp) k (pkL KEY ⟨#[98, 111, 100, 121]⟩ k)) := ownsRow_below OP.out hb
            replace PT : Hid (Box4 v21 bt 52 (.string KEY) (.int .i64 0) (.int .i64 (t : Int)) (.slice aq 32 cq)) := PT.out.below hb
            replace XT : Hid (OwnB v21 0 aq 32 F) := XT.out.below hb
            replace S3 : Hid (b2 + 1 ≤ (v21).heap.size) := Nat.le_trans S3.out hb.size
            replace QQ : Hid (BoxP v21 bq 57 (.int .i64 (x : Int)) (.string ⟨#[98, 111, 100, 121]⟩) (.string TX)) := QQ.out.below hb
            replace XU : Hid (OwnB v21 0 au 32 F) := XU.out.below hb
            clear hb vt0 vt1 vt2 vt3 vq0 vq1 vq2
            obtain ⟨bu, hbu⟩ : ∃ bx, bx = v20.heap.size := ⟨_, rfl⟩
            rw [← hbu] at PU ⊢
            clear hbu
            refine (ST.out _ XT.out.bools).mono ?_
            rintro e v22 ⟨⟨az, cz, rfl, oz⟩, hb⟩
            replace A1 : Hid (Below w.heap.size w v22) := A1.out.trans (hb.mono A1.out.size)
            replace OT : Hid ((v22).ownsRow b2 3 1 (.slice (some ⟨gt, 0, none⟩) m ct) m (nvL m TK)) := ownsRow_below OT.out hb
            replace OP : Hid ((v22).ownsRow (bt + 1) 57 3 (.slice (some ⟨gp, 0, none⟩) k cp) k (pkL KEY ⟨#[98, 111, 100, 121]⟩ k)) := ownsRow_below OP.out hb
            replace PT : Hid (Box4 v22 bt 52 (.string KEY) (.int .i64 0) (.int .i64 (t : Int)) (.slice aq 32 cq)) := PT.out.below hb
            replace XT : Hid (OwnB v22 0 aq 32 F) := XT.out.below hb
            replace S3 : Hid (b2 + 1 ≤ (v22).heap.size) := Nat.le_trans S3.out hb.size
            replace QQ : Hid (BoxP v22 bq 57 (.int .i64 (x : Int)) (.string ⟨#[98, 111, 100, 121]⟩) (.string TX)) := QQ.out.below hb
            replace XU : Hid (OwnB v22 0 au 32 F) := XU.out.below hb
            replace PU : Hid (Box4 v22 bu 52 (.string KEY) (.int .i64 0) (.int .i64 (t : Int)) (.slice au 32 cu)) := PU.out.below hb
            clear hb oz ST
            have hb : Below v22.heap.size v22 (v22.alloc (.cells #[.string KEY, .int .i64 0, .int .i64 (t : Int), .slice az 32 cz] 52)) := (Below.refl _ _).alloc (Nat.le_refl _) _
            have PV : Hid (Box4 (v22.alloc (.cells #[.string KEY, .int .i64 0, .int .i64 (t : Int), .slice az 32 cz] 52)) v22.heap.size 52 (.string KEY) (.int .i64 0) (.int .i64 (t : Int)) (.slice az 32 cz)) := Box4.madeAt rfl _ _ _ _ _
            have vt0 := (PT.out.below hb).c0
            have vt1 := (PT.out.below hb).c1
            have vt2 := (PT.out.below hb).c2
            have vt3 := (PT.out.below hb).c3
            have vq0 := (QQ.out.below hb).c0
            have vq1 := (QQ.out.below hb).c1
            have vq2 := (QQ.out.below hb).c2
            have vu0 := (PU.out.below hb).c0
            have vu1 := (PU.out.below hb).c1
            have vu2 := (PU.out.below hb).c2
            have vu3 := (PU.out.below hb).c3
            go_wp2_with fail
            generalize (v22.alloc (.cells #[.string KEY, .int .i64 0, .int .i64 (t : Int), .slice az 32 cz] 52)) = v23 at *
            replace A1 : Hid (Below w.heap.size w v23) := A1.out.trans (hb.mono A1.out.size)
            replace OT : Hid ((v23).ownsRow b2 3 1 (.slice (some ⟨gt, 0, none⟩) m ct) m (nvL m TK)) := ownsRow_below OT.out hb
            replace OP : Hid ((v23).ownsRow (bt + 1) 57 3 (.slice (some ⟨gp, 0, none⟩) k cp) k (pkL KEY ⟨#[98, 111, 100, 121]⟩ k)) := ownsRow_below OP.out hb
            replace PT : Hid (Box4 v23 bt 52 (.string KEY) (.int .i64 0) (.int .i64 (t : Int)) (.slice aq 32 cq)) := PT.out.below hb
            replace XT : Hid (OwnB v23 0 aq 32 F) := XT.out.below hb
            replace S3 : Hid (b2 + 1 ≤ (v23).heap.size) := Nat.le_trans S3.out hb.size
            replace QQ : Hid (BoxP v23 bq 57 (.int .i64 (x : Int)) (.string ⟨#[98, 111, 100, 121]⟩) (.string TX)) := QQ.out.below hb
            replace XU : Hid (OwnB v23 0 au 32 F) := XU.out.below hb
            replace PU : Hid (Box4 v23 bu 52 (.string KEY) (.int .i64 0) (.int .i64 (t : Int)) (.slice au 32 cu)) := PU.out.below hb
            clear hb vt0 vt1 vt2 vt3 vq0 vq1 vq2 vu0 vu1 vu2 vu3
            obtain ⟨bv, hbv⟩ : ∃ bx, bx = v22.heap.size := ⟨_, rfl⟩
            rw [← hbv] at PV ⊢
            clear hbv
            clear PV
            refine (LO.out au cu _ XU.out.bools).mono ?_
            rintro e v24 ⟨rfl, hb⟩
            replace A1 : Hid (Below w.heap.size w v24) := A1.out.trans (hb.mono A1.out.size)
            replace OT : Hid ((v24).ownsRow b2 3 1 (.slice (some ⟨gt, 0, none⟩) m ct) m (nvL m TK)) := ownsRow_below OT.out hb
            replace OP : Hid ((v24).ownsRow (bt + 1) 57 3 (.slice (some ⟨gp, 0, none⟩) k cp) k (pkL KEY ⟨#[98, 111, 100, 121]⟩ k)) := ownsRow_below OP.out hb
            replace PT : Hid (Box4 v24 bt 52 (.string KEY) (.int .i64 0) (.int .i64 (t : Int)) (.slice aq 32 cq)) := PT.out.below hb
            replace XT : Hid (OwnB v24 0 aq 32 F) := XT.out.below hb
            replace S3 : Hid (b2 + 1 ≤ (v24).heap.size) := Nat.le_trans S3.out hb.size
            replace QQ : Hid (BoxP v24 bq 57 (.int .i64 (x : Int)) (.string ⟨#[98, 111, 100, 121]⟩) (.string TX)) := QQ.out.below hb
            replace XU : Hid (OwnB v24 0 au 32 F) := XU.out.below hb
            replace PU : Hid (Box4 v24 bu 52 (.string KEY) (.int .i64 0) (.int .i64 (t : Int)) (.slice au 32 cu)) := PU.out.below hb
            clear hb LO
            have y0 := PU.out.c0
            have z0 := PT.out.c0
            have fz0 := PT.out.fr 0
            have y1 := PU.out.c1
            have z1 := PT.out.c1
            have fz1 := PT.out.fr 1
            have y2 := PU.out.c2
            have z2 := PT.out.c2
            have fz2 := PT.out.fr 2
            have y3 := PU.out.c3
            have z3 := PT.out.c3
            have fz3 := PT.out.fr 3
            obtain ⟨U, hU⟩ : ∃ U, U = ((((v24.setCell ⟨bt, 0, none⟩ (.string KEY)).setCell ⟨bt, 1, none⟩ (.int .i64 0)).setCell ⟨bt, 2, none⟩ (.int .i64 (t : Int))).setCell ⟨bt, 3, none⟩ (.slice au 32 cu)) := ⟨_, rfl⟩
            have ho : OnlyB bt v24 U := by rw [hU]; exact ((((OnlyB.refl _ _).setCell 0 _).setCell 1 _).setCell 2 _).setCell 3 _
            have P2 : Hid (Box4 U bt 52 (.string KEY) (.int .i64 0) (.int .i64 (t : Int)) (.slice au 32 cu)) := by rw [hU]; exact (((PT.out.set0 _).set1 _).set2 _).set3 _
            have XU2 : Hid (OwnB U 0 au 32 F) := XU.out.one ho (box_ne XU.out (by omega) PT.out (by decide))
            have gr : v24.grownBy U (some bt) := ⟨ho.os, ho.tape, ho.output, ho.size, fun k hk hne => ho.block k hk (fun e => hne (by rw [e]))⟩
            have OP2 : Hid ((U).ownsRow (bt + 1) 57 3 (.slice (some ⟨gp, 0, none⟩) k cp) k (pkL KEY ⟨#[98, 111, 100, 121]⟩ k)) := OP.out.kept gr (.inr (fun e => by have e' : some gp = some bt := e; cases e'; have h1 := GP.out; omega))
            have GT : b2 ≤ gt := (OT.out.lt gt rfl).1
            have O2 : Hid ((U).ownsRow b2 3 1 (.slice (some ⟨gt, 0, none⟩) m ct) m (nvL m TK)) := OT.out.kept gr (.inr (fun e => by have e' : some gt = some bt := e; cases e'; have h1 := S4.out; omega))
            clear GT
            have S2 : Hid (b2 + 1 ≤ U.heap.size) := Nat.le_trans S3.out ho.size
            have A2 : Hid (Below w.heap.size w U) := A1.out.trans (ho.toBelow (B := w.heap.size) WT.out A1.out.size)
            have HU : Hid (U = ((((v24.setCell ⟨bt, 0, none⟩ (.string KEY)).setCell ⟨bt, 1, none⟩ (.int .i64 0)).setCell ⟨bt, 2, none⟩ (.int .i64 (t : Int))).setCell ⟨bt, 3, none⟩ (.slice au 32 cu))) := hU
            clear hU ho gr PT XU OP S3 A1 PU QQ OT XT
            go_upto_region 24 with fail
            rw [← HU.out]
            clear y0 z0 fz0
            clear y1 z1 fz1
            clear y2 z2 fz2
            clear y3 z3 fz3
            clear HU
            go_wp2
            go_roundw
            case rel => exact ⟨kk + 1, m, gt, ct, t, TK, F, au, cu, by omega, by omega, by omega, by go_num, rfl, rfl, TK0.out, L2.out, O2.out, OP2.out, P2.out, XU2.out, S2.out, A2.out⟩
            case measure => simp [intOf]; omega
          · skip
            have x0 : (0 : Int) ≤ (x : Int) := by have := HX.out; omega
            have x50 : (x : Int) ≤ 50 := by have := HX.out; omega
            have TA : TkA KEY 0 (t : Int) 32 F (x : Int) ⟨#[98, 111, 100, 121]⟩ TX KEY 0 (t : Int) 32 F 14 := .inr (.inl ⟨LK0.out, hC, by omega, rfl, rfl, rfl, rfl, rfl⟩)
            have IT : Hid (∀ w : World, Bools w aq 32 F → Tabs w → Calls Tryd.prog 27 #[.agg #[.string KEY, .int .i64 0, .int .i64 (t : Int), .slice aq 32 cq], .agg #[.int .i64 (x : Int), .string ⟨#[98, 111, 100, 121]⟩, .string TX]] w fun e w' => RetL w w' e KEY 0 (t : Int) 32 F 14 ∧ Below w.heap.size w w') := fun w h h2 => implTake_any _ _ _ _ _ _ _ _ _ _ _ _ _ _ _ _ TA (by decide) w h h2
            have ST : Hid (∀ w : World, Bools w aq 32 F → Calls Tryd.prog 28 #[.agg #[.string KEY, .int .i64 0, .int .i64 (t : Int), .slice aq 32 cq], .agg #[.int .i64 (x : Int), .string ⟨#[98, 111, 100, 121]⟩, .string TX]] w fun e w' => RetL w w' e KEY 0 (t : Int) 32 F 14 ∧ Below w.heap.size w w') := fun w h => specTake_any _ _ _ _ _ _ _ _ _ _ _ _ _ _ _ _ TA (by decide) w h
            have L2 : Hid (LkOk KEY 0 (t : Int) 32 F) := LK0.out
            have LO : Hid (∀ (a : Option Addr) (c : Nat) (w : World), Bools w a 32 F → Calls Tryd.prog 30 #[.agg #[.string KEY, .int .i64 0, .int .i64 (t : Int), .slice a 32 c]] w fun e w' => e = .returned (.bool true) ∧ Below w.heap.size w w') := fun a c w h => implLinkOK_any KEY 0 (t : Int) a 32 c F true (by simpa using L2.out) w h
            have c1 : ¬ (x : Int) ≤ (t : Int) - 32 := by omega
            have HI : Hid (∀ w : World, NumsR w (some ⟨gt, 0, none⟩) m TK → Calls Tryd.prog 29 #[.slice (some ⟨gt, 0, none⟩) m ct, .int .i64 (x : Int)] w fun e w' => e = .returned (.bool true) ∧ w = w') := fun w h => hasInt_any (some ⟨gt, 0, none⟩) m ct TK x true (by simpa using g2) (by omega) w h
            clear TA hC g1 g2
            refine (IT.out _ XT.out.bools (HT.out.below A1.out)).mono ?_
            rintro e v20 ⟨⟨au, cu, rfl, ou⟩, hb⟩
            replace A1 : Hid (Below w.heap.size w v20) := A1.out.trans (hb.mono A1.out.size)
            replace OT : Hid ((v20).ownsRow b2 3 1 (.slice (some ⟨gt, 0, none⟩) m ct) m (nvL m TK)) := ownsRow_below OT.out hb
            replace OP : Hid ((v20).ownsRow (bt + 1) 57 3 (.slice (some ⟨gp, 0, none⟩) k cp) k (pkL KEY ⟨#[98, 111, 100, 121]⟩ k)) := ownsRow_below OP.out hb
            replace PT : Hid (Box4 v20 bt 52 (.string KEY) (.int .i64 0) (.int .i64 (t : Int)) (.slice aq 32 cq)) := PT.out.below hb
            replace XT : Hid (OwnB v20 0 aq 32 F) := XT.out.below hb
            replace S3 : Hid (b2 + 1 ≤ (v20).heap.size) := Nat.le_trans S3.out hb.size
            replace QQ : Hid (BoxP v20 bq 57 (.int .i64 (x : Int)) (.string ⟨#[98, 111, 100, 121]⟩) (.string TX)) := QQ.out.below hb
            have XU : Hid (OwnB v20 0 au 32 F) := ou.mono (Nat.zero_le _)
            clear hb ou IT
            have hb : Below v20.heap.size v20 (v20.alloc (.cells #[.string KEY, .int .i64 0, .int .i64 (t : Int), .slice au 32 cu] 52)) := (Below.refl _ _).alloc (Nat.le_refl _) _
            have PU : Hid (Box4 (v20.alloc (.cells #[.string KEY, .int .i64 0, .int .i64 (t : Int), .slice au 32 cu] 52)) v20.heap.size 52 (.string KEY) (.int .i64 0) (.int .i64 (t : Int)) (.slice au 32 cu)) := Box4.madeAt rfl _ _ _ _ _
            have vt0 := (PT.out.below hb).c0
            have vt1 := (PT.out.below hb).c1
            have vt2 := (PT.out.below hb).c2
            have vt3 := (PT.out.below hb).c3
            have vq0 := (QQ.out.below hb).c0
            have vq1 := (QQ.out.below hb).c1
            have vq2 := (QQ.out.below hb).c2
            go_wp2_with fail
            generalize (v20.alloc (.cells #[.string KEY, .int .i64 0, .int .i64 (t : Int), .slice au 32 cu] 52)) = v21 at *
            replace A1 : Hid (Below w.heap.size w v21) := A1.out.trans (hb.mono A1.out.size)
            replace OT : Hid ((v21).ownsRow b2 3 1 (.slice (some ⟨gt, 0, none⟩) m ct) m (nvL m TK)) := ownsRow_below OT.out hb
            replace OP : Hid ((v21).ownsRow (bt + 1) 57 3 (.slice (some ⟨gp, 0, none⟩) k cp) k (pkL KEY ⟨#[98, 111, 100, 121]⟩ k)) := ownsRow_below OP.out hb
            replace PT : Hid (Box4 v21 bt 52 (.string KEY) (.int .i64 0) (.int .i64 (t : Int)) (.slice aq 32 cq)) := PT.out.below hb
            replace XT : Hid (OwnB v21 0 aq 32 F) := XT.out.below hb
            replace S3 : Hid (b2 + 1 ≤ (v21).heap.size) := Nat.le_trans S3.out hb.size
            replace QQ : Hid (BoxP v21 bq 57 (.int .i64 (x : Int)) (.string ⟨#[98, 111, 100, 121]⟩) (.string TX)) := QQ.out.below hb
            replace XU : Hid (OwnB v21 0 au 32 F) := XU.out.below hb
            clear hb vt0 vt1 vt2 vt3 vq0 vq1 vq2
            obtain ⟨bu, hbu⟩ : ∃ bx, bx = v20.heap.size := ⟨_, rfl⟩
            rw [← hbu] at PU ⊢
            clear hbu
            refine (ST.out _ XT.out.bools).mono ?_
            rintro e v22 ⟨⟨az, cz, rfl, oz⟩, hb⟩
            replace A1 : Hid (Below w.heap.size w v22) := A1.out.trans (hb.mono A1.out.size)
            replace OT : Hid ((v22).ownsRow b2 3 1 (.slice (some ⟨gt, 0, none⟩) m ct) m (nvL m TK)) := ownsRow_below OT.out hb
            replace OP : Hid ((v22).ownsRow (bt + 1) 57 3 (.slice (some ⟨gp, 0, none⟩) k cp) k (pkL KEY ⟨#[98, 111, 100, 121]⟩ k)) := ownsRow_below OP.out hb
            replace PT : Hid (Box4 v22 bt 52 (.string KEY) (.int .i64 0) (.int .i64 (t : Int)) (.slice aq 32 cq)) := PT.out.below hb
            replace XT : Hid (OwnB v22 0 aq 32 F) := XT.out.below hb
            replace S3 : Hid (b2 + 1 ≤ (v22).heap.size) := Nat.le_trans S3.out hb.size
            replace QQ : Hid (BoxP v22 bq 57 (.int .i64 (x : Int)) (.string ⟨#[98, 111, 100, 121]⟩) (.string TX)) := QQ.out.below hb
            replace XU : Hid (OwnB v22 0 au 32 F) := XU.out.below hb
            replace PU : Hid (Box4 v22 bu 52 (.string KEY) (.int .i64 0) (.int .i64 (t : Int)) (.slice au 32 cu)) := PU.out.below hb
            clear hb oz ST
            have hb : Below v22.heap.size v22 (v22.alloc (.cells #[.string KEY, .int .i64 0, .int .i64 (t : Int), .slice az 32 cz] 52)) := (Below.refl _ _).alloc (Nat.le_refl _) _
            have PV : Hid (Box4 (v22.alloc (.cells #[.string KEY, .int .i64 0, .int .i64 (t : Int), .slice az 32 cz] 52)) v22.heap.size 52 (.string KEY) (.int .i64 0) (.int .i64 (t : Int)) (.slice az 32 cz)) := Box4.madeAt rfl _ _ _ _ _
            have vt0 := (PT.out.below hb).c0
            have vt1 := (PT.out.below hb).c1
            have vt2 := (PT.out.below hb).c2
            have vt3 := (PT.out.below hb).c3
            have vq0 := (QQ.out.below hb).c0
            have vq1 := (QQ.out.below hb).c1
            have vq2 := (QQ.out.below hb).c2
            have vu0 := (PU.out.below hb).c0
            have vu1 := (PU.out.below hb).c1
            have vu2 := (PU.out.below hb).c2
            have vu3 := (PU.out.below hb).c3
            go_wp2_with fail
            generalize (v22.alloc (.cells #[.string KEY, .int .i64 0, .int .i64 (t : Int), .slice az 32 cz] 52)) = v23 at *
            replace A1 : Hid (Below w.heap.size w v23) := A1.out.trans (hb.mono A1.out.size)
            replace OT : Hid ((v23).ownsRow b2 3 1 (.slice (some ⟨gt, 0, none⟩) m ct) m (nvL m TK)) := ownsRow_below OT.out hb
            replace OP : Hid ((v23).ownsRow (bt + 1) 57 3 (.slice (some ⟨gp, 0, none⟩) k cp) k (pkL KEY ⟨#[98, 111, 100, 121]⟩ k)) := ownsRow_below OP.out hb
            replace PT : Hid (Box4 v23 bt 52 (.string KEY) (.int .i64 0) (.int .i64 (t : Int)) (.slice aq 32 cq)) := PT.out.below hb
            replace XT : Hid (OwnB v23 0 aq 32 F) := XT.out.below hb
            replace S3 : Hid (b2 + 1 ≤ (v23).heap.size) := Nat.le_trans S3.out hb.size
            replace QQ : Hid (BoxP v23 bq 57 (.int .i64 (x : Int)) (.string ⟨#[98, 111, 100, 121]⟩) (.string TX)) := QQ.out.below hb
            replace XU : Hid (OwnB v23 0 au 32 F) := XU.out.below hb
            replace PU : Hid (Box4 v23 bu 52 (.string KEY) (.int .i64 0) (.int .i64 (t : Int)) (.slice au 32 cu)) := PU.out.below hb
            clear hb vt0 vt1 vt2 vt3 vq0 vq1 vq2 vu0 vu1 vu2 vu3
            obtain ⟨bv, hbv⟩ : ∃ bx, bx = v22.heap.size := ⟨_, rfl⟩
            rw [← hbv] at PV ⊢
            clear hbv
            clear PV
            refine (HI.out _ (nums_of_own OT.out)).mono ?_
            rintro e z1 ⟨rfl, rfl⟩
            clear HI
            have y0 := PU.out.c0
            have y1 := PU.out.c1
            have y2 := PU.out.c2
            have y3 := PU.out.c3
            go_wp2_with fail
            clear y0 y1 y2 y3
            refine (LO.out au cu _ XU.out.bools).mono ?_
            rintro e v24 ⟨rfl, hb⟩
            replace A1 : Hid (Below w.heap.size w v24) := A1.out.trans (hb.mono A1.out.size)
            replace OT : Hid ((v24).ownsRow b2 3 1 (.slice (some ⟨gt, 0, none⟩) m ct) m (nvL m TK)) := ownsRow_below OT.out hb
            replace OP : Hid ((v24).ownsRow (bt + 1) 57 3 (.slice (some ⟨gp, 0, none⟩) k cp) k (pkL KEY ⟨#[98, 111, 100, 121]⟩ k)) := ownsRow_below OP.out hb
            replace PT : Hid (Box4 v24 bt 52 (.string KEY) (.int .i64 0) (.int .i64 (t : Int)) (.slice aq 32 cq)) := PT.out.below hb
            replace XT : Hid (OwnB v24 0 aq 32 F) := XT.out.below hb
            replace S3 : Hid (b2 + 1 ≤ (v24).heap.size) := Nat.le_trans S3.out hb.size
            replace QQ : Hid (BoxP v24 bq 57 (.int .i64 (x : Int)) (.string ⟨#[98, 111, 100, 121]⟩) (.string TX)) := QQ.out.below hb
            replace XU : Hid (OwnB v24 0 au 32 F) := XU.out.below hb
            replace PU : Hid (Box4 v24 bu 52 (.string KEY) (.int .i64 0) (.int .i64 (t : Int)) (.slice au 32 cu)) := PU.out.below hb
            clear hb LO
            have y0 := PU.out.c0
            have z0 := PT.out.c0
            have fz0 := PT.out.fr 0
            have y1 := PU.out.c1
            have z1 := PT.out.c1
            have fz1 := PT.out.fr 1
            have y2 := PU.out.c2
            have z2 := PT.out.c2
            have fz2 := PT.out.fr 2
            have y3 := PU.out.c3
            have z3 := PT.out.c3
            have fz3 := PT.out.fr 3
            obtain ⟨U, hU⟩ : ∃ U, U = ((((v24.setCell ⟨bt, 0, none⟩ (.string KEY)).setCell ⟨bt, 1, none⟩ (.int .i64 0)).setCell ⟨bt, 2, none⟩ (.int .i64 (t : Int))).setCell ⟨bt, 3, none⟩ (.slice au 32 cu)) := ⟨_, rfl⟩
            have ho : OnlyB bt v24 U := by rw [hU]; exact ((((OnlyB.refl _ _).setCell 0 _).setCell 1 _).setCell 2 _).setCell 3 _
            have P2 : Hid (Box4 U bt 52 (.string KEY) (.int .i64 0) (.int .i64 (t : Int)) (.slice au 32 cu)) := by rw [hU]; exact (((PT.out.set0 _).set1 _).set2 _).set3 _
            have XU2 : Hid (OwnB U 0 au 32 F) := XU.out.one ho (box_ne XU.out (by omega) PT.out (by decide))
            have gr : v24.grownBy U (some bt) := ⟨ho.os, ho.tape, ho.output, ho.size, fun k hk hne => ho.block k hk (fun e => hne (by rw [e]))⟩
            have OP2 : Hid ((U).ownsRow (bt + 1) 57 3 (.slice (some ⟨gp, 0, none⟩) k cp) k (pkL KEY ⟨#[98, 111, 100, 121]⟩ k)) := OP.out.kept gr (.inr (fun e => by have e' : some gp = some bt := e; cases e'; have h1 := GP.out; omega))
            have GT : b2 ≤ gt := (OT.out.lt gt rfl).1
            have O2 : Hid ((U).ownsRow b2 3 1 (.slice (some ⟨gt, 0, none⟩) m ct) m (nvL m TK)) := OT.out.kept gr (.inr (fun e => by have e' : some gt = some bt := e; cases e'; have h1 := S4.out; omega))
            clear GT
            have S2 : Hid (b2 + 1 ≤ U.heap.size) := Nat.le_trans S3.out ho.size
            have A2 : Hid (Below w.heap.size w U) := A1.out.trans (ho.toBelow (B := w.heap.size) WT.out A1.out.size)
            have HU : Hid (U = ((((v24.setCell ⟨bt, 0, none⟩ (.string KEY)).setCell ⟨bt, 1, none⟩ (.int .i64 0)).setCell ⟨bt, 2, none⟩ (.int .i64 (t : Int))).setCell ⟨bt, 3, none⟩ (.slice au 32 cu))) := hU
            clear hU ho gr PT XU OP S3 A1 PU QQ OT XT
            go_upto_region 24 with fail
            rw [← HU.out]
            clear y0 z0 fz0
            clear y1 z1 fz1
            clear y2 z2 fz2
            clear y3 z3 fz3
            clear HU
            go_wp2
            go_roundw
            case rel => exact ⟨kk + 1, m, gt, ct, t, TK, F, au, cu, by omega, by omega, by omega, by go_num, rfl, rfl, TK0.out, L2.out, O2.out, OP2.out, P2.out, XU2.out, S2.out, A2.out⟩
            case measure => simp [intOf]; omega
          · by_cases hxt : x ≤ t
            · skip
              have x0 : (0 : Int) ≤ (x : Int) := by have := HX.out; omega
              have x50 : (x : Int) ≤ 50 := by have := HX.out; omega
              have TA : TkA KEY 0 (t : Int) 32 F (x : Int) ⟨#[98, 111, 100, 121]⟩ TX KEY 0 (t : Int) 32 (tkW t x F) 0 := .inr (.inr ⟨LK0.out, hC, rfl, rfl, rfl, by omega, rfl, by rw [Int.toNat_natCast, Int.toNat_natCast]⟩)
              have IT : Hid (∀ w : World, Bools w aq 32 F → Tabs w → Calls Tryd.prog 27 #[.agg #[.string KEY, .int .i64 0, .int .i64 (t : Int), .slice aq 32 cq], .agg #[.int .i64 (x : Int), .string ⟨#[98, 111, 100, 121]⟩, .string TX]] w fun e w' => RetL w w' e KEY 0 (t : Int) 32 (tkW t x F) 0 ∧ Below w.heap.size w w') := fun w h h2 => implTake_any _ _ _ _ _ _ _ _ _ _ _ _ _ _ _ _ TA (by decide) w h h2
              have ST : Hid (∀ w : World, Bools w aq 32 F → Calls Tryd.prog 28 #[.agg #[.string KEY, .int .i64 0, .int .i64 (t : Int), .slice aq 32 cq], .agg #[.int .i64 (x : Int), .string ⟨#[98, 111, 100, 121]⟩, .string TX]] w fun e w' => RetL w w' e KEY 0 (t : Int) 32 (tkW t x F) 0 ∧ Below w.heap.size w w') := fun w h => specTake_any _ _ _ _ _ _ _ _ _ _ _ _ _ _ _ _ TA (by decide) w h
              have L2 : Hid (LkOk KEY 0 (t : Int) 32 (tkW t x F)) := by
                have q := LK0.out.step (q := x) (by have := HX.out; omega) g1
                rw [show max t x = t from by omega] at q
                exact q
              have K2 : Hid (Tak t (tkW t x F) (m + 1) (fun j => if j = m then x else TK j)) := by
                have q := TK0.out.step (q := x) HX.out.1 g1
                rw [show max t x = t from by omega] at q
                exact q
              have LO : Hid (∀ (a : Option Addr) (c : Nat) (w : World), Bools w a 32 (tkW t x F) → Calls Tryd.prog 30 #[.agg #[.string KEY, .int .i64 0, .int .i64 (t : Int), .slice a 32 c]] w fun e w' => e = .returned (.bool true) ∧ Below w.heap.size w w') := fun a c w h => implLinkOK_any KEY 0 (t : Int) a 32 c (tkW t x F) true (by simpa using L2.out) w h
              have c1 : ¬ (x : Int) ≤ (t : Int) - 32 := by omega
              have HI : Hid (∀ w : World, NumsR w (some ⟨gt, 0, none⟩) m TK → Calls Tryd.prog 29 #[.slice (some ⟨gt, 0, none⟩) m ct, .int .i64 (x : Int)] w fun e w' => e = .returned (.bool false) ∧ w = w') := fun w h => hasInt_any (some ⟨gt, 0, none⟩) m ct TK x false (by simpa using g2) (by omega) w h
              have e3 : ¬ (t : Int) < (x : Int) := by omega
              have e3m : max (t : Int) (x : Int) = (t : Int) := by omega
              clear TA hC g1 g2
              refine (IT.out _ XT.out.bools (HT.out.below A1.out)).mono ?_
              rintro e v20 ⟨⟨au, cu, rfl, ou⟩, hb⟩
              replace A1 : Hid (Below w.heap.size w v20) := A1.out.trans (hb.mono A1.out.size)
              replace OT : Hid ((v20).ownsRow b2 3 1 (.slice (some ⟨gt, 0, none⟩) m ct) m (nvL m TK)) := ownsRow_below OT.out hb
              replace OP : Hid ((v20).ownsRow (bt + 1) 57 3 (.slice (some ⟨gp, 0, none⟩) k cp) k (pkL KEY ⟨#[98, 111, 100, 121]⟩ k)) := ownsRow_below OP.out hb
              replace PT : Hid (Box4 v20 bt 52 (.string KEY) (.int .i64 0) (.int .i64 (t : Int)) (.slice aq 32 cq)) := PT.out.below hb
              replace XT : Hid (OwnB v20 0 aq 32 F) := XT.out.below hb
              replace S3 : Hid (b2 + 1 ≤ (v20).heap.size) := Nat.le_trans S3.out hb.size
              replace QQ : Hid (BoxP v20 bq 57 (.int .i64 (x : Int)) (.string ⟨#[98, 111, 100, 121]⟩) (.string TX)) := QQ.out.below hb
              have XU : Hid (OwnB v20 0 au 32 (tkW t x F)) := ou.mono (Nat.zero_le _)
              clear hb ou IT
              have hb : Below v20.heap.size v20 (v20.alloc (.cells #[.string KEY, .int .i64 0, .int .i64 (t : Int), .slice au 32 cu] 52)) := (Below.refl _ _).alloc (Nat.le_refl _) _
              have PU : Hid (Box4 (v20.alloc (.cells #[.string KEY, .int .i64 0, .int .i64 (t : Int), .slice au 32 cu] 52)) v20.heap.size 52 (.string KEY) (.int .i64 0) (.int .i64 (t : Int)) (.slice au 32 cu)) := Box4.madeAt rfl _ _ _ _ _
              have vt0 := (PT.out.below hb).c0
              have vt1 := (PT.out.below hb).c1
              have vt2 := (PT.out.below hb).c2
              have vt3 := (PT.out.below hb).c3
              have vq0 := (QQ.out.below hb).c0
              have vq1 := (QQ.out.below hb).c1
              have vq2 := (QQ.out.below hb).c2
              go_wp2_with fail
              generalize (v20.alloc (.cells #[.string KEY, .int .i64 0, .int .i64 (t : Int), .slice au 32 cu] 52)) = v21 at *
              replace A1 : Hid (Below w.heap.size w v21) := A1.out.trans (hb.mono A1.out.size)
              replace OT : Hid ((v21).ownsRow b2 3 1 (.slice (some ⟨gt, 0, none⟩) m ct) m (nvL m TK)) := ownsRow_below OT.out hb
              replace OP : Hid ((v21).ownsRow (bt + 1) 57 3 (.slice (some ⟨gp, 0, none⟩) k cp) k (pkL KEY ⟨#[98, 111, 100, 121]⟩ k)) := ownsRow_below OP.out hb
              replace PT : Hid (Box4 v21 bt 52 (.string KEY) (.int .i64 0) (.int .i64 (t : Int)) (.slice aq 32 cq)) := PT.out.below hb
              replace XT : Hid (OwnB v21 0 aq 32 F) := XT.out.below hb
              replace S3 : Hid (b2 + 1 ≤ (v21).heap.size) := Nat.le_trans S3.out hb.size
              replace QQ : Hid (BoxP v21 bq 57 (.int .i64 (x : Int)) (.string ⟨#[98, 111, 100, 121]⟩) (.string TX)) := QQ.out.below hb
              replace XU : Hid (OwnB v21 0 au 32 (tkW t x F)) := XU.out.below hb
              clear hb vt0 vt1 vt2 vt3 vq0 vq1 vq2
              obtain ⟨bu, hbu⟩ : ∃ bx, bx = v20.heap.size := ⟨_, rfl⟩
              rw [← hbu] at PU ⊢
              clear hbu
              refine (ST.out _ XT.out.bools).mono ?_
              rintro e v22 ⟨⟨az, cz, rfl, oz⟩, hb⟩
              replace A1 : Hid (Below w.heap.size w v22) := A1.out.trans (hb.mono A1.out.size)
              replace OT : Hid ((v22).ownsRow b2 3 1 (.slice (some ⟨gt, 0, none⟩) m ct) m (nvL m TK)) := ownsRow_below OT.out hb
              replace OP : Hid ((v22).ownsRow (bt + 1) 57 3 (.slice (some ⟨gp, 0, none⟩) k cp) k (pkL KEY ⟨#[98, 111, 100, 121]⟩ k)) := ownsRow_below OP.out hb
              replace PT : Hid (Box4 v22 bt 52 (.string KEY) (.int .i64 0) (.int .i64 (t : Int)) (.slice aq 32 cq)) := PT.out.below hb
              replace XT : Hid (OwnB v22 0 aq 32 F) := XT.out.below hb
              replace S3 : Hid (b2 + 1 ≤ (v22).heap.size) := Nat.le_trans S3.out hb.size
              replace QQ : Hid (BoxP v22 bq 57 (.int .i64 (x : Int)) (.string ⟨#[98, 111, 100, 121]⟩) (.string TX)) := QQ.out.below hb
              replace XU : Hid (OwnB v22 0 au 32 (tkW t x F)) := XU.out.below hb
              replace PU : Hid (Box4 v22 bu 52 (.string KEY) (.int .i64 0) (.int .i64 (t : Int)) (.slice au 32 cu)) := PU.out.below hb
              clear hb oz ST
              have hb : Below v22.heap.size v22 (v22.alloc (.cells #[.string KEY, .int .i64 0, .int .i64 (t : Int), .slice az 32 cz] 52)) := (Below.refl _ _).alloc (Nat.le_refl _) _
              have PV : Hid (Box4 (v22.alloc (.cells #[.string KEY, .int .i64 0, .int .i64 (t : Int), .slice az 32 cz] 52)) v22.heap.size 52 (.string KEY) (.int .i64 0) (.int .i64 (t : Int)) (.slice az 32 cz)) := Box4.madeAt rfl _ _ _ _ _
              have vt0 := (PT.out.below hb).c0
              have vt1 := (PT.out.below hb).c1
              have vt2 := (PT.out.below hb).c2
              have vt3 := (PT.out.below hb).c3
              have vq0 := (QQ.out.below hb).c0
              have vq1 := (QQ.out.below hb).c1
              have vq2 := (QQ.out.below hb).c2
              have vu0 := (PU.out.below hb).c0
              have vu1 := (PU.out.below hb).c1
              have vu2 := (PU.out.below hb).c2
              have vu3 := (PU.out.below hb).c3
              go_wp2_with fail
              generalize (v22.alloc (.cells #[.string KEY, .int .i64 0, .int .i64 (t : Int), .slice az 32 cz] 52)) = v23 at *
              replace A1 : Hid (Below w.heap.size w v23) := A1.out.trans (hb.mono A1.out.size)
              replace OT : Hid ((v23).ownsRow b2 3 1 (.slice (some ⟨gt, 0, none⟩) m ct) m (nvL m TK)) := ownsRow_below OT.out hb
              replace OP : Hid ((v23).ownsRow (bt + 1) 57 3 (.slice (some ⟨gp, 0, none⟩) k cp) k (pkL KEY ⟨#[98, 111, 100, 121]⟩ k)) := ownsRow_below OP.out hb
              replace PT : Hid (Box4 v23 bt 52 (.string KEY) (.int .i64 0) (.int .i64 (t : Int)) (.slice aq 32 cq)) := PT.out.below hb
              replace XT : Hid (OwnB v23 0 aq 32 F) := XT.out.below hb
              replace S3 : Hid (b2 + 1 ≤ (v23).heap.size) := Nat.le_trans S3.out hb.size
              replace QQ : Hid (BoxP v23 bq 57 (.int .i64 (x : Int)) (.string ⟨#[98, 111, 100, 121]⟩) (.string TX)) := QQ.out.below hb
              replace XU : Hid (OwnB v23 0 au 32 (tkW t x F)) := XU.out.below hb
              replace PU : Hid (Box4 v23 bu 52 (.string KEY) (.int .i64 0) (.int .i64 (t : Int)) (.slice au 32 cu)) := PU.out.below hb
              clear hb vt0 vt1 vt2 vt3 vq0 vq1 vq2 vu0 vu1 vu2 vu3
              obtain ⟨bv, hbv⟩ : ∃ bx, bx = v22.heap.size := ⟨_, rfl⟩
              rw [← hbv] at PV ⊢
              clear hbv
              clear PV
              refine (HI.out _ (nums_of_own OT.out)).mono ?_
              rintro e z1 ⟨rfl, rfl⟩
              clear HI
              have y0 := PU.out.c0
              have y1 := PU.out.c1
              have y2 := PU.out.c2
              have y3 := PU.out.c3
              go_wp2_with fail
              clear y0 y1 y2 y3
              refine (LO.out au cu _ XU.out.bools).mono ?_
              rintro e v24 ⟨rfl, hb⟩
              replace A1 : Hid (Below w.heap.size w v24) := A1.out.trans (hb.mono A1.out.size)
              replace OT : Hid ((v24).ownsRow b2 3 1 (.slice (some ⟨gt, 0, none⟩) m ct) m (nvL m TK)) := ownsRow_below OT.out hb
              replace OP : Hid ((v24).ownsRow (bt + 1) 57 3 (.slice (some ⟨gp, 0, none⟩) k cp) k (pkL KEY ⟨#[98, 111, 100, 121]⟩ k)) := ownsRow_below OP.out hb
              replace PT : Hid (Box4 v24 bt 52 (.string KEY) (.int .i64 0) (.int .i64 (t : Int)) (.slice aq 32 cq)) := PT.out.below hb
              replace XT : Hid (OwnB v24 0 aq 32 F) := XT.out.below hb
              replace S3 : Hid (b2 + 1 ≤ (v24).heap.size) := Nat.le_trans S3.out hb.size
              replace QQ : Hid (BoxP v24 bq 57 (.int .i64 (x : Int)) (.string ⟨#[98, 111, 100, 121]⟩) (.string TX)) := QQ.out.below hb
              replace XU : Hid (OwnB v24 0 au 32 (tkW t x F)) := XU.out.below hb
              replace PU : Hid (Box4 v24 bu 52 (.string KEY) (.int .i64 0) (.int .i64 (t : Int)) (.slice au 32 cu)) := PU.out.below hb
              clear hb LO
              have yq := QQ.out.c0
              have hsz : b2 ≤ v24.heap.size := by have := S3.out; omega
              have GT : Hid (b2 ≤ gt) := (OT.out.lt gt rfl).1
              go_upto_region 36 with fail
              go_wp2_with (at_builtin; refine wpList_append_own _ rfl _ _ 29 rfl b2 3 i1 (.int .i64 0) 1 8 Tryd.underlying29 HJ.out.1 HJ.out.2.1 HJ.out.2.2.1 HJ.out.2.2.2 rfl (by decide) (.slice (some ⟨gt, 0, none⟩) m ct) m _ rfl (OT.out.alloc _) ⟨v24.heap.size, 0, none⟩ 1 1 [.int .i64 (x : Int)] rfl rfl (one_newK _ _ _) (one_oneK _ rfl) (by unfold maxLen; omega) (by omega) (by simp; omega) ?_)
              intro v' w9 hown hgrow hnil
              have hown' : w9.ownsRow b2 3 1 v' (m + 1) (nvL (m + 1) (fun j => if j = m then x else TK j)) := by rw [← nvL_next]; exact hown
              obtain ⟨g2, c2, rfl, hg2, -⟩ := owned_some hown' (by omega)
              have BG : Below b2 v24 w9 := ((Below.refl b2 v24).alloc hsz _).grown hgrow (by simp; omega) (fun k hk => by have e : some gt = some k := hk; cases e; exact GT.out)
              have KB : ∀ k, k < v24.heap.size → k ≠ gt → w9.heap[k]? = v24.heap[k]? := fun k h1 h2 => by
                rw [hgrow.block k (by simp; omega) (fun e => h2 (Option.some.inj e))]
                exact World.heap_alloc_lt v24 _ k h1
              have O9 : Hid (w9.ownsRow b2 3 1 (.slice (some ⟨g2, 0, none⟩) (m + 1) c2) (m + 1) (nvL (m + 1) (fun j => if j = m then x else TK j))) := hown'
              replace OP : Hid ((w9).ownsRow (bt + 1) 57 3 (.slice (some ⟨gp, 0, none⟩) k cp) k (pkL KEY ⟨#[98, 111, 100, 121]⟩ k)) := OP.out.kept (w' := w9) ⟨BG.os, BG.tape, BG.output, BG.size, fun k h1 h2 => KB k h1 (fun e => h2 (by rw [e]))⟩ (.inr (fun e => by have e' : some gp = some gt := e; cases e'; have h1 := GL.out; have h2 := GT.out; omega))
              replace PT : Hid (Box4 w9 bt 52 (.string KEY) (.int .i64 0) (.int .i64 (t : Int)) (.slice aq 32 cq)) := PT.out.ofBlock (BG.block _ (by have := S4.out; omega))
              replace PU : Hid (Box4 w9 bu 52 (.string KEY) (.int .i64 0) (.int .i64 (t : Int)) (.slice au 32 cu)) := PU.out.ofBlock (KB _ PU.out.lt (boxown_ne PU.out OT.out ⟨_, rfl⟩ (by decide)))
              replace QQ : Hid (BoxP w9 bq 57 (.int .i64 (x : Int)) (.string ⟨#[98, 111, 100, 121]⟩) (.string TX)) := QQ.out.ofBlock (KB _ QQ.out.lt (boxPown_ne QQ.out OT.out ⟨_, rfl⟩ (by decide)))
              replace XU : Hid (OwnB w9 0 au 32 (tkW t x F)) := XU.out.blk (fun p hp => KB _ (XU.out.ltO (by omega) p hp) (types_ne XU.out (by omega) OT.out ⟨_, rfl⟩ (by decide) p hp))
              replace S3 : Hid (b2 + 1 ≤ w9.heap.size) := Nat.le_trans S3.out BG.size
              replace A1 : Hid (Below w.heap.size w w9) := A1.out.trans (BG.mono (by have h1 := WT.out; have h2 := S4.out; omega))
              clear hown hown' hgrow hnil BG KB OT XT yq hsz
              have yq := QQ.out.c0
              have y0 := PU.out.c0
              have z0 := PT.out.c0
              have fz0 := PT.out.fr 0
              have y1 := PU.out.c1
              have z1 := PT.out.c1
              have fz1 := PT.out.fr 1
              have y2 := PU.out.c2
              have z2 := PT.out.c2
              have fz2 := PT.out.fr 2
              have y3 := PU.out.c3
              have z3 := PT.out.c3
              have fz3 := PT.out.fr 3
              obtain ⟨U, hU⟩ : ∃ U, U = ((((w9.setCell ⟨bt, 0, none⟩ (.string KEY)).setCell ⟨bt, 1, none⟩ (.int .i64 0)).setCell ⟨bt, 2, none⟩ (.int .i64 (t : Int))).setCell ⟨bt, 3, none⟩ (.slice au 32 cu)) := ⟨_, rfl⟩
              have ho : OnlyB bt w9 U := by rw [hU]; exact ((((OnlyB.refl _ _).setCell 0 _).setCell 1 _).setCell 2 _).setCell 3 _
              have P2 : Hid (Box4 U bt 52 (.string KEY) (.int .i64 0) (.int .i64 (t : Int)) (.slice au 32 cu)) := by rw [hU]; exact (((PT.out.set0 _).set1 _).set2 _).set3 _
              have XU2 : Hid (OwnB U 0 au 32 (tkW t x F)) := XU.out.one ho (box_ne XU.out (by omega) PT.out (by decide))
              have gr : w9.grownBy U (some bt) := ⟨ho.os, ho.tape, ho.output, ho.size, fun k hk hne => ho.block k hk (fun e => hne (by rw [e]))⟩
              have OP2 : Hid ((U).ownsRow (bt + 1) 57 3 (.slice (some ⟨gp, 0, none⟩) k cp) k (pkL KEY ⟨#[98, 111, 100, 121]⟩ k)) := OP.out.kept gr (.inr (fun e => by have e' : some gp = some bt := e; cases e'; have h1 := GP.out; omega))
              have O2 : Hid (U.ownsRow b2 3 1 (.slice (some ⟨g2, 0, none⟩) (m + 1) c2) (m + 1) (nvL (m + 1) (fun j => if j = m then x else TK j))) := O9.out.kept gr (.inr (fun e => by have e' : some g2 = some bt := e; cases e'; have h1 := S4.out; omega))
              have S2 : Hid (b2 + 1 ≤ U.heap.size) := Nat.le_trans S3.out ho.size
              have A2 : Hid (Below w.heap.size w U) := A1.out.trans (ho.toBelow (B := w.heap.size) WT.out A1.out.size)
              have HU : Hid (U = ((((w9.setCell ⟨bt, 0, none⟩ (.string KEY)).setCell ⟨bt, 1, none⟩ (.int .i64 0)).setCell ⟨bt, 2, none⟩ (.int .i64 (t : Int))).setCell ⟨bt, 3, none⟩ (.slice au 32 cu))) := hU
              clear hU ho gr PT XU OP S3 A1 PU QQ O9
              go_upto_region 24 with fail
              rw [← HU.out]
              clear y0 z0 fz0
              clear y1 z1 fz1
              clear y2 z2 fz2
              clear y3 z3 fz3
              clear HU yq
              go_wp2
              go_roundw
              case rel => exact ⟨kk + 1, m + 1, g2, c2, t, _, _, au, cu, by omega, by omega, by omega, by go_num, rfl, rfl, K2.out, L2.out, O2.out, OP2.out, P2.out, XU2.out, S2.out, A2.out⟩
              case measure => simp [intOf]; omega
            · skip
              have x0 : (0 : Int) ≤ (x : Int) := by have := HX.out; omega
              have x50 : (x : Int) ≤ 50 := by have := HX.out; omega
              have TA : TkA KEY 0 (t : Int) 32 F (x : Int) ⟨#[98, 111, 100, 121]⟩ TX KEY 0 (x : Int) 32 (tkW t x F) 0 := .inr (.inr ⟨LK0.out, hC, rfl, rfl, rfl, by omega, rfl, by rw [Int.toNat_natCast, Int.toNat_natCast]⟩)
              have IT : Hid (∀ w : World, Bools w aq 32 F → Tabs w → Calls Tryd.prog 27 #[.agg #[.string KEY, .int .i64 0, .int .i64 (t : Int), .slice aq 32 cq], .agg #[.int .i64 (x : Int), .string ⟨#[98, 111, 100, 121]⟩, .string TX]] w fun e w' => RetL w w' e KEY 0 (x : Int) 32 (tkW t x F) 0 ∧ Below w.heap.size w w') := fun w h h2 => implTake_any _ _ _ _ _ _ _ _ _ _ _ _ _ _ _ _ TA (by decide) w h h2
              have ST : Hid (∀ w : World, Bools w aq 32 F → Calls Tryd.prog 28 #[.agg #[.string KEY, .int .i64 0, .int .i64 (t : Int), .slice aq 32 cq], .agg #[.int .i64 (x : Int), .string ⟨#[98, 111, 100, 121]⟩, .string TX]] w fun e w' => RetL w w' e KEY 0 (x : Int) 32 (tkW t x F) 0 ∧ Below w.heap.size w w') := fun w h => specTake_any _ _ _ _ _ _ _ _ _ _ _ _ _ _ _ _ TA (by decide) w h
              have L2 : Hid (LkOk KEY 0 (x : Int) 32 (tkW t x F)) := by
                have q := LK0.out.step (q := x) (by have := HX.out; omega) g1
                rw [show max t x = x from by omega] at q
                exact q
              have K2 : Hid (Tak x (tkW t x F) (m + 1) (fun j => if j = m then x else TK j)) := by
                have q := TK0.out.step (q := x) HX.out.1 g1
                rw [show max t x = x from by omega] at q
                exact q
              have LO : Hid (∀ (a : Option Addr) (c : Nat) (w : World), Bools w a 32 (tkW t x F) → Calls Tryd.prog 30 #[.agg #[.string KEY, .int .i64 0, .int .i64 (x : Int), .slice a 32 c]] w fun e w' => e = .returned (.bool true) ∧ Below w.heap.size w w') := fun a c w h => implLinkOK_any KEY 0 (x : Int) a 32 c (tkW t x F) true (by simpa using L2.out) w h
              have c1 : ¬ (x : Int) ≤ (t : Int) - 32 := by omega
              have HI : Hid (∀ w : World, NumsR w (some ⟨gt, 0, none⟩) m TK → Calls Tryd.prog 29 #[.slice (some ⟨gt, 0, none⟩) m ct, .int .i64 (x : Int)] w fun e w' => e = .returned (.bool false) ∧ w = w') := fun w h => hasInt_any (some ⟨gt, 0, none⟩) m ct TK x false (by simpa using g2) (by omega) w h
              have e3 : (t : Int) < (x : Int) := by omega
              have e3m : max (t : Int) (x : Int) = (x : Int) := by omega
              clear TA hC g1 g2
              refine (IT.out _ XT.out.bools (HT.out.below A1.out)).mono ?_
              rintro e v20 ⟨⟨au, cu, rfl, ou⟩, hb⟩
              replace A1 : Hid (Below w.heap.size w v20) := A1.out.trans (hb.mono A1.out.size)
              replace OT : Hid ((v20).ownsRow b2 3 1 (.slice (some ⟨gt, 0, none⟩) m ct) m (nvL m TK)) := ownsRow_below OT.out hb
              replace OP : Hid ((v20).ownsRow (bt + 1) 57 3 (.slice (some ⟨gp, 0, none⟩) k cp) k (pkL KEY ⟨#[98, 111, 100, 121]⟩ k)) := ownsRow_below OP.out hb
              replace PT : Hid (Box4 v20 bt 52 (.string KEY) (.int .i64 0) (.int .i64 (t : Int)) (.slice aq 32 cq)) := PT.out.below hb
              replace XT : Hid (OwnB v20 0 aq 32 F) := XT.out.below hb
              replace S3 : Hid (b2 + 1 ≤ (v20).heap.size) := Nat.le_trans S3.out hb.size
              replace QQ : Hid (BoxP v20 bq 57 (.int .i64 (x : Int)) (.string ⟨#[98, 111, 100, 121]⟩) (.string TX)) := QQ.out.below hb
              have XU : Hid (OwnB v20 0 au 32 (tkW t x F)) := ou.mono (Nat.zero_le _)
              clear hb ou IT
              have hb : Below v20.heap.size v20 (v20.alloc (.cells #[.string KEY, .int .i64 0, .int .i64 (x : Int), .slice au 32 cu] 52)) := (Below.refl _ _).alloc (Nat.le_refl _) _
              have PU : Hid (Box4 (v20.alloc (.cells #[.string KEY, .int .i64 0, .int .i64 (x : Int), .slice au 32 cu] 52)) v20.heap.size 52 (.string KEY) (.int .i64 0) (.int .i64 (x : Int)) (.slice au 32 cu)) := Box4.madeAt rfl _ _ _ _ _
              have vt0 := (PT.out.below hb).c0
              have vt1 := (PT.out.below hb).c1
              have vt2 := (PT.out.below hb).c2
              have vt3 := (PT.out.below hb).c3
              have vq0 := (QQ.out.below hb).c0
              have vq1 := (QQ.out.below hb).c1
              have vq2 := (QQ.out.below hb).c2
              go_wp2_with fail
              generalize (v20.alloc (.cells #[.string KEY, .int .i64 0, .int .i64 (x : Int), .slice au 32 cu] 52)) = v21 at *
              replace A1 : Hid (Below w.heap.size w v21) := A1.out.trans (hb.mono A1.out.size)
              replace OT : Hid ((v21).ownsRow b2 3 1 (.slice (some ⟨gt, 0, none⟩) m ct) m (nvL m TK)) := ownsRow_below OT.out hb
              replace OP : Hid ((v21).ownsRow (bt + 1) 57 3 (.slice (some ⟨gp, 0, none⟩) k cp) k (pkL KEY ⟨#[98, 111, 100, 121]⟩ k)) := ownsRow_below OP.out hb
              replace PT : Hid (Box4 v21 bt 52 (.string KEY) (.int .i64 0) (.int .i64 (t : Int)) (.slice aq 32 cq)) := PT.out.below hb
              replace XT : Hid (OwnB v21 0 aq 32 F) := XT.out.below hb
              replace S3 : Hid (b2 + 1 ≤ (v21).heap.size) := Nat.le_trans S3.out hb.size
              replace QQ : Hid (BoxP v21 bq 57 (.int .i64 (x : Int)) (.string ⟨#[98, 111, 100, 121]⟩) (.string TX)) := QQ.out.below hb
              replace XU : Hid (OwnB v21 0 au 32 (tkW t x F)) := XU.out.below hb
              clear hb vt0 vt1 vt2 vt3 vq0 vq1 vq2
              obtain ⟨bu, hbu⟩ : ∃ bx, bx = v20.heap.size := ⟨_, rfl⟩
              rw [← hbu] at PU ⊢
              clear hbu
              refine (ST.out _ XT.out.bools).mono ?_
              rintro e v22 ⟨⟨az, cz, rfl, oz⟩, hb⟩
              replace A1 : Hid (Below w.heap.size w v22) := A1.out.trans (hb.mono A1.out.size)
              replace OT : Hid ((v22).ownsRow b2 3 1 (.slice (some ⟨gt, 0, none⟩) m ct) m (nvL m TK)) := ownsRow_below OT.out hb
              replace OP : Hid ((v22).ownsRow (bt + 1) 57 3 (.slice (some ⟨gp, 0, none⟩) k cp) k (pkL KEY ⟨#[98, 111, 100, 121]⟩ k)) := ownsRow_below OP.out hb
              replace PT : Hid (Box4 v22 bt 52 (.string KEY) (.int .i64 0) (.int .i64 (t : Int)) (.slice aq 32 cq)) := PT.out.below hb
              replace XT : Hid (OwnB v22 0 aq 32 F) := XT.out.below hb
              replace S3 : Hid (b2 + 1 ≤ (v22).heap.size) := Nat.le_trans S3.out hb.size
              replace QQ : Hid (BoxP v22 bq 57 (.int .i64 (x : Int)) (.string ⟨#[98, 111, 100, 121]⟩) (.string TX)) := QQ.out.below hb
              replace XU : Hid (OwnB v22 0 au 32 (tkW t x F)) := XU.out.below hb
              replace PU : Hid (Box4 v22 bu 52 (.string KEY) (.int .i64 0) (.int .i64 (x : Int)) (.slice au 32 cu)) := PU.out.below hb
              clear hb oz ST
              have hb : Below v22.heap.size v22 (v22.alloc (.cells #[.string KEY, .int .i64 0, .int .i64 (x : Int), .slice az 32 cz] 52)) := (Below.refl _ _).alloc (Nat.le_refl _) _
              have PV : Hid (Box4 (v22.alloc (.cells #[.string KEY, .int .i64 0, .int .i64 (x : Int), .slice az 32 cz] 52)) v22.heap.size 52 (.string KEY) (.int .i64 0) (.int .i64 (x : Int)) (.slice az 32 cz)) := Box4.madeAt rfl _ _ _ _ _
              have vt0 := (PT.out.below hb).c0
              have vt1 := (PT.out.below hb).c1
              have vt2 := (PT.out.below hb).c2
              have vt3 := (PT.out.below hb).c3
              have vq0 := (QQ.out.below hb).c0
              have vq1 := (QQ.out.below hb).c1
              have vq2 := (QQ.out.below hb).c2
              have vu0 := (PU.out.below hb).c0
              have vu1 := (PU.out.below hb).c1
              have vu2 := (PU.out.below hb).c2
              have vu3 := (PU.out.below hb).c3
              go_wp2_with fail
              generalize (v22.alloc (.cells #[.string KEY, .int .i64 0, .int .i64 (x : Int), .slice az 32 cz] 52)) = v23 at *
              replace A1 : Hid (Below w.heap.size w v23) := A1.out.trans (hb.mono A1.out.size)
              replace OT : Hid ((v23).ownsRow b2 3 1 (.slice (some ⟨gt, 0, none⟩) m ct) m (nvL m TK)) := ownsRow_below OT.out hb
              replace OP : Hid ((v23).ownsRow (bt + 1) 57 3 (.slice (some ⟨gp, 0, none⟩) k cp) k (pkL KEY ⟨#[98, 111, 100, 121]⟩ k)) := ownsRow_below OP.out hb
              replace PT : Hid (Box4 v23 bt 52 (.string KEY) (.int .i64 0) (.int .i64 (t : Int)) (.slice aq 32 cq)) := PT.out.below hb
              replace XT : Hid (OwnB v23 0 aq 32 F) := XT.out.below hb
              replace S3 : Hid (b2 + 1 ≤ (v23).heap.size) := Nat.le_trans S3.out hb.size
              replace QQ : Hid (BoxP v23 bq 57 (.int .i64 (x : Int)) (.string ⟨#[98, 111, 100, 121]⟩) (.string TX)) := QQ.out.below hb
              replace XU : Hid (OwnB v23 0 au 32 (tkW t x F)) := XU.out.below hb
              replace PU : Hid (Box4 v23 bu 52 (.string KEY) (.int .i64 0) (.int .i64 (x : Int)) (.slice au 32 cu)) := PU.out.below hb
              clear hb vt0 vt1 vt2 vt3 vq0 vq1 vq2 vu0 vu1 vu2 vu3
              obtain ⟨bv, hbv⟩ : ∃ bx, bx = v22.heap.size := ⟨_, rfl⟩
              rw [← hbv] at PV ⊢
              clear hbv
              clear PV
              refine (HI.out _ (nums_of_own OT.out)).mono ?_
              rintro e z1 ⟨rfl, rfl⟩
              clear HI
              have y0 := PU.out.c0
              have y1 := PU.out.c1
              have y2 := PU.out.c2
              have y3 := PU.out.c3
              go_wp2_with fail
              clear y0 y1 y2 y3
              refine (LO.out au cu _ XU.out.bools).mono ?_
              rintro e v24 ⟨rfl, hb⟩
              replace A1 : Hid (Below w.heap.size w v24) := A1.out.trans (hb.mono A1.out.size)
              replace OT : Hid ((v24).ownsRow b2 3 1 (.slice (some ⟨gt, 0, none⟩) m ct) m (nvL m TK)) := ownsRow_below OT.out hb
              replace OP : Hid ((v24).ownsRow (bt + 1) 57 3 (.slice (some ⟨gp, 0, none⟩) k cp) k (pkL KEY ⟨#[98, 111, 100, 121]⟩ k)) := ownsRow_below OP.out hb
              replace PT : Hid (Box4 v24 bt 52 (.string KEY) (.int .i64 0) (.int .i64 (t : Int)) (.slice aq 32 cq)) := PT.out.below hb
              replace XT : Hid (OwnB v24 0 aq 32 F) := XT.out.below hb
              replace S3 : Hid (b2 + 1 ≤ (v24).heap.size) := Nat.le_trans S3.out hb.size
              replace QQ : Hid (BoxP v24 bq 57 (.int .i64 (x : Int)) (.string ⟨#[98, 111, 100, 121]⟩) (.string TX)) := QQ.out.below hb
              replace XU : Hid (OwnB v24 0 au 32 (tkW t x F)) := XU.out.below hb
              replace PU : Hid (Box4 v24 bu 52 (.string KEY) (.int .i64 0) (.int .i64 (x : Int)) (.slice au 32 cu)) := PU.out.below hb
              clear hb LO
              have yq := QQ.out.c0
              have hsz : b2 ≤ v24.heap.size := by have := S3.out; omega
              have GT : Hid (b2 ≤ gt) := (OT.out.lt gt rfl).1
              go_upto_region 36 with fail
              go_wp2_with (at_builtin; refine wpList_append_own _ rfl _ _ 29 rfl b2 3 i1 (.int .i64 0) 1 8 Tryd.underlying29 HJ.out.1 HJ.out.2.1 HJ.out.2.2.1 HJ.out.2.2.2 rfl (by decide) (.slice (some ⟨gt, 0, none⟩) m ct) m _ rfl (OT.out.alloc _) ⟨v24.heap.size, 0, none⟩ 1 1 [.int .i64 (x : Int)] rfl rfl (one_newK _ _ _) (one_oneK _ rfl) (by unfold maxLen; omega) (by omega) (by simp; omega) ?_)
              intro v' w9 hown hgrow hnil
              have hown' : w9.ownsRow b2 3 1 v' (m + 1) (nvL (m + 1) (fun j => if j = m then x else TK j)) := by rw [← nvL_next]; exact hown
              obtain ⟨g2, c2, rfl, hg2, -⟩ := owned_some hown' (by omega)
              have BG : Below b2 v24 w9 := ((Below.refl b2 v24).alloc hsz _).grown hgrow (by simp; omega) (fun k hk => by have e : some gt = some k := hk; cases e; exact GT.out)
              have KB : ∀ k, k < v24.heap.size → k ≠ gt → w9.heap[k]? = v24.heap[k]? := fun k h1 h2 => by
                rw [hgrow.block k (by simp; omega) (fun e => h2 (Option.some.inj e))]
                exact World.heap_alloc_lt v24 _ k h1
              have O9 : Hid (w9.ownsRow b2 3 1 (.slice (some ⟨g2, 0, none⟩) (m + 1) c2) (m + 1) (nvL (m + 1) (fun j => if j = m then x else TK j))) := hown'
              replace OP : Hid ((w9).ownsRow (bt + 1) 57 3 (.slice (some ⟨gp, 0, none⟩) k cp) k (pkL KEY ⟨#[98, 111, 100, 121]⟩ k)) := OP.out.kept (w' := w9) ⟨BG.os, BG.tape, BG.output, BG.size, fun k h1 h2 => KB k h1 (fun e => h2 (by rw [e]))⟩ (.inr (fun e => by have e' : some gp = some gt := e; cases e'; have h1 := GL.out; have h2 := GT.out; omega))
              replace PT : Hid (Box4 w9 bt 52 (.string KEY) (.int .i64 0) (.int .i64 (t : Int)) (.slice aq 32 cq)) := PT.out.ofBlock (BG.block _ (by have := S4.out; omega))
              replace PU : Hid (Box4 w9 bu 52 (.string KEY) (.int .i64 0) (.int .i64 (x : Int)) (.slice au 32 cu)) := PU.out.ofBlock (KB _ PU.out.lt (boxown_ne PU.out OT.out ⟨_, rfl⟩ (by decide)))
              replace QQ : Hid (BoxP w9 bq 57 (.int .i64 (x : Int)) (.string ⟨#[98, 111, 100, 121]⟩) (.string TX)) := QQ.out.ofBlock (KB _ QQ.out.lt (boxPown_ne QQ.out OT.out ⟨_, rfl⟩ (by decide)))
              replace XU : Hid (OwnB w9 0 au 32 (tkW t x F)) := XU.out.blk (fun p hp => KB _ (XU.out.ltO (by omega) p hp) (types_ne XU.out (by omega) OT.out ⟨_, rfl⟩ (by decide) p hp))
              replace S3 : Hid (b2 + 1 ≤ w9.heap.size) := Nat.le_trans S3.out BG.size
              replace A1 : Hid (Below w.heap.size w w9) := A1.out.trans (BG.mono (by have h1 := WT.out; have h2 := S4.out; omega))
              clear hown hown' hgrow hnil BG KB OT XT yq hsz
              have yq := QQ.out.c0
              have y0 := PU.out.c0
              have z0 := PT.out.c0
              have fz0 := PT.out.fr 0
              have y1 := PU.out.c1
              have z1 := PT.out.c1
              have fz1 := PT.out.fr 1
              have y2 := PU.out.c2
              have z2 := PT.out.c2
              have fz2 := PT.out.fr 2
              have y3 := PU.out.c3
              have z3 := PT.out.c3
              have fz3 := PT.out.fr 3
              obtain ⟨U, hU⟩ : ∃ U, U = ((((w9.setCell ⟨bt, 0, none⟩ (.string KEY)).setCell ⟨bt, 1, none⟩ (.int .i64 0)).setCell ⟨bt, 2, none⟩ (.int .i64 (x : Int))).setCell ⟨bt, 3, none⟩ (.slice au 32 cu)) := ⟨_, rfl⟩
              have ho : OnlyB bt w9 U := by rw [hU]; exact ((((OnlyB.refl _ _).setCell 0 _).setCell 1 _).setCell 2 _).setCell 3 _
              have P2 : Hid (Box4 U bt 52 (.string KEY) (.int .i64 0) (.int .i64 (x : Int)) (.slice au 32 cu)) := by rw [hU]; exact (((PT.out.set0 _).set1 _).set2 _).set3 _
              have XU2 : Hid (OwnB U 0 au 32 (tkW t x F)) := XU.out.one ho (box_ne XU.out (by omega) PT.out (by decide))
              have gr : w9.grownBy U (some bt) := ⟨ho.os, ho.tape, ho.output, ho.size, fun k hk hne => ho.block k hk (fun e => hne (by rw [e]))⟩
              have OP2 : Hid ((U).ownsRow (bt + 1) 57 3 (.slice (some ⟨gp, 0, none⟩) k cp) k (pkL KEY ⟨#[98, 111, 100, 121]⟩ k)) := OP.out.kept gr (.inr (fun e => by have e' : some gp = some bt := e; cases e'; have h1 := GP.out; omega))
              have O2 : Hid (U.ownsRow b2 3 1 (.slice (some ⟨g2, 0, none⟩) (m + 1) c2) (m + 1) (nvL (m + 1) (fun j => if j = m then x else TK j))) := O9.out.kept gr (.inr (fun e => by have e' : some g2 = some bt := e; cases e'; have h1 := S4.out; omega))
              have S2 : Hid (b2 + 1 ≤ U.heap.size) := Nat.le_trans S3.out ho.size
              have A2 : Hid (Below w.heap.size w U) := A1.out.trans (ho.toBelow (B := w.heap.size) WT.out A1.out.size)
              have HU : Hid (U = ((((w9.setCell ⟨bt, 0, none⟩ (.string KEY)).setCell ⟨bt, 1, none⟩ (.int .i64 0)).setCell ⟨bt, 2, none⟩ (.int .i64 (x : Int))).setCell ⟨bt, 3, none⟩ (.slice au 32 cu))) := hU
              clear hU ho gr PT XU OP S3 A1 PU QQ O9
              go_upto_region 24 with fail
              rw [← HU.out]
              clear y0 z0 fz0
              clear y1 z1 fz1
              clear y2 z2 fz2
              clear y3 z3 fz3
              clear HU yq
              go_wp2
              go_roundw
              case rel => exact ⟨kk + 1, m + 1, g2, c2, x, _, _, au, cu, by omega, by omega, by have := HX.out; omega, by go_num, rfl, rfl, K2.out, L2.out, O2.out, OP2.out, P2.out, XU2.out, S2.out, A2.out⟩
              case measure => simp [intOf]; omega
        · have k60 : ¬ (kk : Int) < 60 := by omega
          have d2 := pk_cells OP.out (j := 49 * 3 + 2) (by have := K50.out; omega)
          rw [pkC2] at d2
          generalize ptag KEY ⟨#[98, 111, 100, 121]⟩ (49 + 1) = T50 at *
          have jk : (49 : Int) < (k : Int) := by have := K50.out; omega
          obtain ⟨K', se', tp', n', f', code, hA⟩ := tkA_ex KEY 0 (t : Int) 32 F 50 ⟨#[111, 116, 104, 101, 114]⟩ T50
          have IT : Hid (∀ w : World, Bools w aq 32 F → Tabs w → Calls Tryd.prog 27 #[.agg #[.string KEY, .int .i64 0, .int .i64 (t : Int), .slice aq 32 cq], .agg #[.int .i64 50, .string ⟨#[111, 116, 104, 101, 114]⟩, .string T50]] w fun e w' => RetL w w' e K' se' tp' n' f' code ∧ Below w.heap.size w w') := fun w h h2 => implTake_any _ _ _ _ _ _ _ _ _ _ _ _ _ _ _ _ hA (by decide) w h h2
          have ST : Hid (∀ w : World, Bools w aq 32 F → Calls Tryd.prog 28 #[.agg #[.string KEY, .int .i64 0, .int .i64 (t : Int), .slice aq 32 cq], .agg #[.int .i64 50, .string ⟨#[111, 116, 104, 101, 114]⟩, .string T50]] w fun e w' => RetL w w' e K' se' tp' n' f' code ∧ Below w.heap.size w w') := fun w h => specTake_any _ _ _ _ _ _ _ _ _ _ _ _ _ _ _ _ hA (by decide) w h
          have cc : (code == code) = true := by simp
          clear hA OT
          have hb : Below wr.heap.size wr (wr.alloc (.cells #[.int .i64 50, .string ⟨#[111, 116, 104, 101, 114]⟩, .string T50] 57)) := (Below.refl _ _).alloc (Nat.le_refl _) _
          have QQ : Hid (BoxP (wr.alloc (.cells #[.int .i64 50, .string ⟨#[111, 116, 104, 101, 114]⟩, .string T50] 57)) wr.heap.size 57 (.int .i64 50) (.string ⟨#[111, 116, 104, 101, 114]⟩) (.string T50)) := BoxP.madeAt rfl _ _ _ _
          have w0' := (PT.out.below hb).c0
          have w1' := (PT.out.below hb).c1
          have w2' := (PT.out.below hb).c2
          have w3' := (PT.out.below hb).c3
          go_wp2_with fail
          clear w0' w1' w2' w3' d2 jk
          generalize (wr.alloc (.cells #[.int .i64 50, .string ⟨#[111, 116, 104, 101, 114]⟩, .string T50] 57)) = v25 at *
          replace A1 : Hid (Below w.heap.size w v25) := A1.out.trans (hb.mono A1.out.size)
          replace OP : Hid ((v25).ownsRow (bt + 1) 57 3 (.slice (some ⟨gp, 0, none⟩) k cp) k (pkL KEY ⟨#[98, 111, 100, 121]⟩ k)) := ownsRow_below OP.out hb
          replace PT : Hid (Box4 v25 bt 52 (.string KEY) (.int .i64 0) (.int .i64 (t : Int)) (.slice aq 32 cq)) := PT.out.below hb
          replace XT : Hid (OwnB v25 0 aq 32 F) := XT.out.below hb
          replace S3 : Hid (b2 + 1 ≤ (v25).heap.size) := Nat.le_trans S3.out hb.size
          obtain ⟨bq, hbq⟩ : ∃ x, x = wr.heap.size := ⟨_, rfl⟩
          rw [← hbq] at QQ ⊢
          clear hb hbq
          refine (IT.out _ XT.out.bools (HT.out.below A1.out)).mono ?_
          rintro e v26 ⟨⟨au, cu, rfl, ou⟩, hb⟩
          replace A1 : Hid (Below w.heap.size w v26) := A1.out.trans (hb.mono A1.out.size)
          replace OP : Hid ((v26).ownsRow (bt + 1) 57 3 (.slice (some ⟨gp, 0, none⟩) k cp) k (pkL KEY ⟨#[98, 111, 100, 121]⟩ k)) := ownsRow_below OP.out hb
          replace PT : Hid (Box4 v26 bt 52 (.string KEY) (.int .i64 0) (.int .i64 (t : Int)) (.slice aq 32 cq)) := PT.out.below hb
          replace XT : Hid (OwnB v26 0 aq 32 F) := XT.out.below hb
          replace S3 : Hid (b2 + 1 ≤ (v26).heap.size) := Nat.le_trans S3.out hb.size
          replace QQ : Hid (BoxP v26 bq 57 (.int .i64 50) (.string ⟨#[111, 116, 104, 101, 114]⟩) (.string T50)) := QQ.out.below hb
          clear hb ou IT
          have hb : Below v26.heap.size v26 (v26.alloc (.cells #[.string K', .int .i64 se', .int .i64 tp', .slice au n' cu] 52)) := (Below.refl _ _).alloc (Nat.le_refl _) _
          have vt0 := (PT.out.below hb).c0
          have vt1 := (PT.out.below hb).c1
          have vt2 := (PT.out.below hb).c2
          have vt3 := (PT.out.below hb).c3
          have vq0 := (QQ.out.below hb).c0
          have vq1 := (QQ.out.below hb).c1
          have vq2 := (QQ.out.below hb).c2
          go_wp2_with fail
          generalize (v26.alloc (.cells #[.string K', .int .i64 se', .int .i64 tp', .slice au n' cu] 52)) = v27 at *
          replace A1 : Hid (Below w.heap.size w v27) := A1.out.trans (hb.mono A1.out.size)
          replace OP : Hid ((v27).ownsRow (bt + 1) 57 3 (.slice (some ⟨gp, 0, none⟩) k cp) k (pkL KEY ⟨#[98, 111, 100, 121]⟩ k)) := ownsRow_below OP.out hb
          replace PT : Hid (Box4 v27 bt 52 (.string KEY) (.int .i64 0) (.int .i64 (t : Int)) (.slice aq 32 cq)) := PT.out.below hb
          replace XT : Hid (OwnB v27 0 aq 32 F) := XT.out.below hb
          replace S3 : Hid (b2 + 1 ≤ (v27).heap.size) := Nat.le_trans S3.out hb.size
          replace QQ : Hid (BoxP v27 bq 57 (.int .i64 50) (.string ⟨#[111, 116, 104, 101, 114]⟩) (.string T50)) := QQ.out.below hb
          clear hb vt0 vt1 vt2 vt3 vq0 vq1 vq2
          refine (ST.out _ XT.out.bools).mono ?_
          rintro e v28 ⟨⟨az, cz, rfl, oz⟩, hb⟩
          replace A1 : Hid (Below w.heap.size w v28) := A1.out.trans (hb.mono A1.out.size)
          replace OP : Hid ((v28).ownsRow (bt + 1) 57 3 (.slice (some ⟨gp, 0, none⟩) k cp) k (pkL KEY ⟨#[98, 111, 100, 121]⟩ k)) := ownsRow_below OP.out hb
          replace PT : Hid (Box4 v28 bt 52 (.string KEY) (.int .i64 0) (.int .i64 (t : Int)) (.slice aq 32 cq)) := PT.out.below hb
          replace XT : Hid (OwnB v28 0 aq 32 F) := XT.out.below hb
          replace S3 : Hid (b2 + 1 ≤ (v28).heap.size) := Nat.le_trans S3.out hb.size
          replace QQ : Hid (BoxP v28 bq 57 (.int .i64 50) (.string ⟨#[111, 116, 104, 101, 114]⟩) (.string T50)) := QQ.out.below hb
          clear hb oz ST
          have A9 : Hid (Below w.heap.size w (v28.alloc (.cells #[.string K', .int .i64 se', .int .i64 tp', .slice az n' cz] 52))) := A1.out.trans (((Below.refl _ _).alloc (Nat.le_refl _) _).mono A1.out.size)
          clear QQ PT XT OP S3 A1
          go_wp2
          go_ret
          exact ⟨rfl, A9.out⟩
end Go.Proofs.YtkhglllicblbbaaDoor
