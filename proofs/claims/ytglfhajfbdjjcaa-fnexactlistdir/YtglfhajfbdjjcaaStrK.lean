/-
  Rows of texts with room: marked, held (written by tools/mkstrk.py out of StrS).
-/
import Derived.Test.YtglfhajfbdjjcaaStrS
import Derived.Test.YtglfhajfbdjjcaaEls
import Derived.Deep.RegionHeld3
namespace Go.Proofs.Ytglfhajfbdjjcaa
open Go.ChangeShapes Go.WideShapes Go.ChangeAt Go.RowKit
set_option linter.unusedVariables false
/-- n texts in block g from its head on, that may be written. -/
structure TxRow (w : World) (a : Option Addr) (g n : Nat) (f : Nat → ByteArray) : Prop where
  a : 0 < n → a = some ⟨g, 0, none⟩
  c : ∀ i, i < n → w.cell? ⟨g, i, none⟩ = some (.string (f i))
  z : ∀ i, i < n → w.frozen? ⟨g, i, none⟩ = false
theorem TxRow.lt {w : World} {a : Option Addr} {g n : Nat} {f : Nat → ByteArray} (h : TxRow w a g n f) (hn : 0 < n) : g < w.heap.size := strBlock (h.c 0 hn)
theorem TxRow.ofBlock {w w' : World} {a : Option Addr} {g n : Nat} {f : Nat → ByteArray} (h : TxRow w a g n f) (e : 0 < n → w'.heap[g]? = w.heap[g]?) : TxRow w' a g n f :=
  ⟨h.a, fun i hi => by rw [cellE (e (by omega))]; exact h.c i hi, fun i hi => by rw [frozenE (e (by omega))]; exact h.z i hi⟩
theorem TxRow.below {w w' : World} {a : Option Addr} {g n : Nat} {f : Nat → ByteArray} (h : TxRow w a g n f) (hb : Below w.heap.size w w') : TxRow w' a g n f := h.ofBlock (fun hn => hb.block g (h.lt hn))
theorem TxRow.turned {w w' : World} {a : Option Addr} {g n b m : Nat} {f : Nat → ByteArray} (h : TxRow w a g n f) (ho : TurnedE b m w w') (hne : 0 < n → 0 < m → g ≠ b) : TxRow w' a g n f := h.ofBlock (fun hn => ho.block (h.lt hn) (hne hn))
theorem TxRow.congr {w : World} {a : Option Addr} {g n : Nat} {f f' : Nat → ByteArray} (h : TxRow w a g n f) (e : ∀ i, i < n → f i = f' i) : TxRow w a g n f' := ⟨h.a, fun i hi => by rw [← e i hi]; exact h.c i hi, h.z⟩
theorem TxRow.set {w : World} {a : Option Addr} {g n : Nat} {f : Nat → ByteArray} (h : TxRow w a g n f) (k : Nat) (v : ByteArray) : TxRow (w.setCell ⟨g, k, none⟩ (.string v)) a g n (fun i => if i = k then v else f i) :=
  ⟨h.a, fun i hi => by
    by_cases e : i = k
    · subst e
      rw [if_pos rfl]
      exact World.cell?_setCell_same _ _ _ (h.c i hi)
    · rw [if_neg e]
      exact (World.cell?_setCell_other _ ⟨g, k, none⟩ ⟨g, i, none⟩ _ (fun q => e (congrArg Addr.off q).symm)).trans (h.c i hi), fun i hi => by rw [World.frozen?_setCell]; exact h.z i hi⟩
theorem TxRow.strs {w : World} {a : Option Addr} {g n : Nat} {f : Nat → ByteArray} (h : TxRow w a g n f) : Strs w a n f := fun i hi => ⟨g, 0, h.a (by omega), by rw [Nat.zero_add]; exact h.c i hi⟩
set_option maxRecDepth 100000 in
set_option maxHeartbeats 1000000 in
theorem markStrK (a : Option Addr) (b n c : Nat) (f : Nat → ByteArray) (w : World) (h : TxRow w a b n (fun i => f i)) (hn : n ≤ 1000000) :
    Calls Try.prog 19 #[.slice a n c, .int .i64 1] w fun e w' => e = .returned (.int .i64 ((n + 1 : Nat) : Int)) ∧ TxRow w' a b n (fun i => mt (i + 1)) ∧ TurnedE b n w w' := by
  have H : Hid (TxRow w a b n (fun i => f i)) := h
  clear h
  go_enter Try.func19, Try.ntmps19
  go_wp2
  go_loopw [1, 5] (fun kv i wr => ∃ q : Nat, q ≤ n ∧ i = .int .i64 q ∧ kv = .int .i64 ((q + 1 : Nat) : Int) ∧ TxRow wr a b n (fun i => if i < q then mt (i + 1) else f i) ∧ TurnedE b n w wr) (fun _ i _ => n - (intOf i).toNat)
  case atStart => exact ⟨0, by omega, rfl, rfl, H.out.congr (fun j hj => by rw [if_neg (by omega)]), TurnedE.refl _ _ _⟩
  case round =>
    obtain ⟨q, hq, rfl, rfl, hrow, ho⟩ := hrel
    by_cases hlt : q < n
    · have MT : Hid (∀ w : World, Calls Try.prog 54 #[.int .i64 ((q + 1 : Nat) : Int)] w fun e w' => e = .returned (.string (mt (q + 1))) ∧ Below w.heap.size w w') := markText_any (q + 1) (by omega) (by omega)
      have hlt' : (q : Int) < (n : Int) := by omega
      obtain rfl := hrow.a (by omega)
      have HRW : Hid (TxRow wr (some ⟨b, 0, none⟩) b n (fun i => if i < q then mt (i + 1) else f i)) := hrow
      have HO : Hid (OnlyB b w wr) := ho.1
      clear hrow ho
      go_wp2_with fail
      refine (MT.out _).mono ?_
      rintro e w1 ⟨rfl, hb⟩
      have hrow := HRW.out.ofBlock (fun hp => hb.block b (HRW.out.lt hp))
      have g1 := hrow.c q hlt
      rw [if_neg (by omega)] at g1
      have f1 := hrow.z q hlt
      have HR1 : Hid (TxRow w1 (some ⟨b, 0, none⟩) b n (fun i => if i < q then mt (i + 1) else f i)) := hrow
      have HO1 : Hid (OnlyB b w w1) := HO.out.below hb
      clear hrow hb HRW HO
      go_wp2
      go_roundw
      case rel =>
        refine ⟨q + 1, by omega, by go_num, by go_num, ?_, ⟨HO1.out.setCell _ _, fun z => absurd z (by omega)⟩⟩
        exact (HR1.out.set q _).congr (fun j hj => by
          by_cases e : j = q
          · subst e; rw [if_pos rfl, if_pos (show j < j + 1 by omega)]
          · rw [if_neg e]
            by_cases h1 : j < q
            · rw [if_pos h1, if_pos (by omega)]
            · rw [if_neg h1, if_neg (by omega)])
      case measure => simp [intOf]; omega
    · obtain rfl : q = n := by omega
      have HF : Hid (TxRow wr a b q (fun i => mt (i + 1))) := hrow.congr (fun j hj => by rw [if_pos hj])
      have HO : Hid (TurnedE b q w wr) := ho
      clear hrow ho
      go_wp2
      go_ret
      exact ⟨rfl, HF.out, HO.out⟩
set_option maxRecDepth 100000 in
set_option maxHeartbeats 1000000 in
theorem heldStrK (a : Option Addr) (n c : Nat) (w : World) (h : Strs w a n (fun i => mt (i + 1))) (hn : n ≤ 1000000) :
    Calls Try.prog 20 #[.slice a n c, .int .i64 1] w fun e w' => e = .returned (.int .i64 ((n + 1 : Nat) : Int)) ∧ Below w.heap.size w w' := by
  have H : Hid (Strs w a n (fun i => mt (i + 1))) := h
  clear h
  go_enter Try.func20, Try.ntmps20
  go_wp2
  go_loopw [1, 5] (fun kv i wr => ∃ q : Nat, q ≤ n ∧ i = .int .i64 q ∧ kv = .int .i64 ((q + 1 : Nat) : Int) ∧ Below w.heap.size w wr) (fun _ i _ => n - (intOf i).toNat)
  case atStart => exact ⟨0, by omega, rfl, rfl, Below.refl _ _⟩
  case round =>
    obtain ⟨q, hq, rfl, rfl, hb⟩ := hrel
    by_cases hlt : q < n
    · have MT : Hid (∀ w : World, Calls Try.prog 54 #[.int .i64 ((q + 1 : Nat) : Int)] w fun e w' => e = .returned (.string (mt (q + 1))) ∧ Below w.heap.size w w') := markText_any (q + 1) (by omega) (by omega)
      obtain ⟨b, off, rfl, hc⟩ := H.out.opened (by omega)
      have c0 := hc q hlt
      have c1 : wr.cell? ⟨b, off + q, none⟩ = some (.string (mt (q + 1))) := by rw [hb.cell (strBlock c0)]; exact c0
      have HB : Hid (Below w.heap.size w wr) := hb
      have hbl : b < w.heap.size := strBlock c0
      have hlt' : (q : Int) < (n : Int) := by omega
      have hlt0 : (0 : Int) ≤ (q : Int) := by omega
      clear hb hc c0
      generalize mt (q + 1) = V at *
      go_wp2_with fail
      go_region_held3 (fun w' => w'.cell? ⟨b, off + q, none⟩ = some (.string V) ∧ Below w.heap.size w w') (first | exact ⟨c1, HB.out.drew⟩ | (go_split_ands; exact held_keep (by assumption) (by assumption) hbl hb)) ((first | (go_at_call 54; refine (MT.out _).mono ?_; rintro e w1 ⟨rfl, hb⟩; have HB1 : Hid (Below w.heap.size w w1) := HB.out.drew.trans (hb.mono HB.out.size))))
      go_wp2
      go_roundw
      case rel => exact ⟨q + 1, by omega, by go_num, by go_num, HB1.out⟩
      case measure => simp [intOf]; omega
    · obtain rfl : q = n := by omega
      have HB : Hid (Below w.heap.size w wr) := hb
      clear hb
      go_wp2
      go_ret
      exact ⟨rfl, HB.out⟩
end Go.Proofs.Ytglfhajfbdjjcaa
