/-
  Rows of texts and of writes that a call has made by append: copies, and one write more.
-/
import Derived.Test.YtgdfhgepbamhmaaDoorDiskTo
import Derived.Test.YtgdfhgepbamhmaaDoorMarkD
import Derived.Laws.OwnMore
import Derived.Lib.AppendZeros
import Derived.Maps.AppendAt
import Derived.OwnWalk
namespace Go.Proofs.YtgdfhgepbamhmaaDoor
open Go.ChangeShapes Go.WideShapes Go.ChangeAt Go.RowKit
/-- The value v is a slice of n texts in a row of the call's own, from block B on. -/
def TxR (w : World) (B : Nat) (v : Value) (n : Nat) (f : Nat → ByteArray) : Prop := w.ownsRow B 9 1 v n ((List.range n).map fun i => .string (f i))
/-- .. a slice of n writes. -/
def PnR (w : World) (B : Nat) (v : Value) (n : Nat) (A : Nat → Int) (D : Nat → ByteArray) : Prop := w.ownsRow B 68 2 v n ((List.range (n * 2)).map (penC A D))
/-- The block of such a slice; 0 of one that has none. -/
def rowOf (v : Value) : Nat := match v.ownBlock with | some g => g | none => 0
theorem TxR.form {w : World} {B : Nat} {v : Value} {n : Nat} {f : Nat → ByteArray} (h : TxR w B v n f) : ∃ a c, v = .slice a n c ∧ RowS w a (rowOf v) n f ∧ (0 < n → B ≤ rowOf v) ∧ (v.ownBlock = none → n = 0) ∧ n ≤ c := by
  obtain ⟨hl, ⟨rfl, rfl⟩ | ⟨g, cap, cur, rfl, hB, hh, hn, hm, hs, ht⟩⟩ := h
  · exact ⟨none, 0, rfl, RowS.nil _ _ _ _, fun h => absurd h (by omega), fun _ => rfl, Nat.le_refl _⟩
  · refine ⟨some ⟨g, 0, none⟩, cap, rfl, ⟨fun _ => rfl, fun i hi => ?_, fun i hi => ?_⟩, fun _ => hB, fun h => (by cases h), hn⟩
    · have h1 : (cur.toList.take (n * 1))[i]? = some (.string (f i)) := by rw [ht]; simp [hi]
      rw [List.getElem?_take, if_pos (by omega), Array.getElem?_toList] at h1
      show w.cell? ⟨g, i, none⟩ = _
      simp [World.cell?, hh, h1]
    · show w.frozen? ⟨g, i, none⟩ = false
      simp [World.frozen?, hh]
theorem PnR.form {w : World} {B : Nat} {v : Value} {n : Nat} {A : Nat → Int} {D : Nat → ByteArray} (h : PnR w B v n A D) : ∃ a c, v = .slice a n c ∧ RowP w a (rowOf v) n A D ∧ (0 < n → B ≤ rowOf v) ∧ (v.ownBlock = none → n = 0) ∧ n ≤ c := by
  obtain ⟨hl, ⟨rfl, rfl⟩ | ⟨g, cap, cur, rfl, hB, hh, hn, hm, hs, ht⟩⟩ := h
  · exact ⟨none, 0, rfl, RowP.nil _ _ _ _ _, fun h => absurd h (by omega), fun _ => rfl, Nat.le_refl _⟩
  · have each : ∀ i, i < n * 2 → w.cell? ⟨g, i, none⟩ = some (penC A D i) := fun i hi => by
      have h1 : (cur.toList.take (n * 2))[i]? = some (penC A D i) := by rw [ht]; simp [hi]
      rw [List.getElem?_take, if_pos (by omega), Array.getElem?_toList] at h1
      simp [World.cell?, hh, h1]
    refine ⟨some ⟨g, 0, none⟩, cap, rfl, ⟨fun _ => rfl, fun i hi => ?_, fun i hi => ?_, fun i hi => ?_⟩, fun _ => hB, fun h => (by cases h), hn⟩
    · exact (each (i * 2) (by omega)).trans (by rw [penC0])
    · exact (each (i * 2 + 1) (by omega)).trans (by rw [penC1])
    · show w.frozen? ⟨g, i, none⟩ = false
      simp [World.frozen?, hh]
theorem ownsRow_block {w w' : World} {B : Nat} {e : TypeId} {size : Nat} {v : Value} {n : Nat} {xs : List Value} (h : w.ownsRow B e size v n xs) (hk : ∀ g, v.ownBlock = some g → w'.heap[g]? = w.heap[g]?) : w'.ownsRow B e size v n xs := by
  obtain ⟨hl, h0 | ⟨g, cap, cur, rfl, hB, hh, hr⟩⟩ := h
  · exact ⟨hl, .inl h0⟩
  · exact ⟨hl, .inr ⟨g, cap, cur, rfl, hB, (hk g rfl).trans hh, hr⟩⟩
theorem ownsRow_belowD {w w' : World} {B : Nat} {e : TypeId} {size : Nat} {v : Value} {n : Nat} {xs : List Value} (h : w.ownsRow B e size v n xs) (hb : Below w.heap.size w w') : w'.ownsRow B e size v n xs := ownsRow_block h (fun g hg => hb.block g (h.lt g hg).2)
theorem ownsRow_onlyB {w w' : World} {B b : Nat} {e : TypeId} {size : Nat} {v : Value} {n : Nat} {xs : List Value} (h : w.ownsRow B e size v n xs) (ho : OnlyB b w w') (hne : v.ownBlock ≠ some b) : w'.ownsRow B e size v n xs := ownsRow_block h (fun g hg => ho.block g (h.lt g hg).2 (fun e => hne (e ▸ hg)))
theorem TxR.below {w w' : World} {B : Nat} {v : Value} {n : Nat} {f : Nat → ByteArray} (h : TxR w B v n f) (hb : Below w.heap.size w w') : TxR w' B v n f := ownsRow_belowD h hb
theorem PnR.below {w w' : World} {B : Nat} {v : Value} {n : Nat} {A : Nat → Int} {D : Nat → ByteArray} (h : PnR w B v n A D) (hb : Below w.heap.size w w') : PnR w' B v n A D := ownsRow_belowD h hb
theorem TxR.onlyB {w w' : World} {B b : Nat} {v : Value} {n : Nat} {f : Nat → ByteArray} (h : TxR w B v n f) (ho : OnlyB b w w') (hne : v.ownBlock ≠ some b) : TxR w' B v n f := ownsRow_onlyB h ho hne
theorem PnR.onlyB {w w' : World} {B b : Nat} {v : Value} {n : Nat} {A : Nat → Int} {D : Nat → ByteArray} (h : PnR w B v n A D) (ho : OnlyB b w w') (hne : v.ownBlock ≠ some b) : PnR w' B v n A D := ownsRow_onlyB h ho hne
theorem TxR.nil (w : World) (B : Nat) (f : Nat → ByteArray) : TxR w B (.slice none 0 0) 0 f := World.ownsRow_nil w B _ _
theorem PnR.nil (w : World) (B : Nat) (A : Nat → Int) (D : Nat → ByteArray) : PnR w B (.slice none 0 0) 0 A D := World.ownsRow_nil w B _ _
/-- An empty row that was laid just now. -/
theorem TxR.lit (w : World) (B : Nat) (hB : B ≤ w.heap.size) (f : Nat → ByteArray) : TxR (w.alloc (.cells #[] 9)) B (.slice (some ⟨w.heap.size, 0, none⟩) 0 0) 0 f := World.ownsRow_made w #[] 0 hB (Nat.zero_le _) rfl
theorem PnR.lit (w : World) (B : Nat) (hB : B ≤ w.heap.size) (A : Nat → Int) (D : Nat → ByteArray) : PnR (w.alloc (.cells #[] 68)) B (.slice (some ⟨w.heap.size, 0, none⟩) 0 0) 0 A D := World.ownsRow_made w #[] 0 hB (Nat.zero_le _) rfl
def catT (n : Nat) (f g : Nat → ByteArray) (i : Nat) : ByteArray := if i < n then f i else g (i - n)
def catI (n : Nat) (f g : Nat → Int) (i : Nat) : Int := if i < n then f i else g (i - n)
theorem grown_only {w w' : World} {g : Nat} (h : w.grownBy w' (some g)) : OnlyB g w w' := ⟨h.os, h.tape, h.output, h.size, fun k hk hn => h.block k hk (fun e => hn (Option.some.inj e))⟩
theorem grown_belowD {w w' : World} (h : w.grownBy w' none) : Below w.heap.size w w' := (Below.refl _ w).grown h (Nat.le_refl _) (fun k hk => by cases hk)
set_option maxRecDepth 100000 in
/-- append of texts to a row of the call's own. -/
theorem appTx (w : World) (B : Nat) (v : Value) (n : Nat) (f : Nat → ByteArray) (a : Option Addr) (m c : Nat) (g : Nat → ByteArray) (ty : TypeId) (hB : B ≤ w.heap.size) (hn : n + m ≤ 1048576) (h : TxR w B v n f) (hs : Strs w a m g) (ha : a = none → c = 0) :
    ∃ v' w', (Builtin.append_ #[24, 24] ty #[v, .slice a m c]).run Tryd.prog w = .ok v' w' ∧ TxR w' B v' (n + m) (catT n f g) ∧ w.grownBy w' v.ownBlock ∧ (v'.ownBlock = v.ownBlock ∨ v'.ownBlock = some w.heap.size) := by
  obtain ⟨i, hi, hz, hsz, hby⟩ := info_parts Tryd.infoStrD
  have hcat : (List.range (n + m)).map (fun i => Value.string (catT n f g i)) = (List.range n).map (fun i => .string (f i)) ++ (List.range m).map (fun i => .string (g i)) := by
    rw [List.range_add, List.map_append, List.map_map]
    congr 1
    · exact List.map_congr_left (fun j hj => by unfold catT; rw [if_pos (List.mem_range.1 hj)])
    · exact List.map_congr_left (fun j _ => by show Value.string (catT n f g (n + j)) = _; unfold catT; rw [if_neg (by omega), Nat.add_sub_cancel_left])
  by_cases h0 : m = 0
  · subst h0
    have hcong : TxR w B v (n + 0) (catT n f g) := by
      unfold TxR
      rw [hcat]
      simpa [TxR] using h
    cases a with
    | none =>
      obtain rfl := ha rfl
      exact ⟨v, w, run_append_owned_none w B 24 ty 9 i 1 Tryd.underlying24 hi v n _ h, hcong, ⟨rfl, rfl, rfl, Nat.le_refl _, fun _ _ _ => rfl⟩, .inl rfl⟩
    | some ad =>
      obtain ⟨v', w', hr, ho, hg, _, hloc⟩ := run_append_own_at (P := Tryd.prog) w B 24 ty 9 i (.string ⟨#[]⟩) 1 16 Tryd.underlying24 hi hz hsz hby rfl (by decide) v n _ h ad 0 c [] rfl (fun j u hj => by simp at hj) (fun u hu => by simp at hu) (by unfold maxLen; omega) (by omega) hB
      exact ⟨v', w', hr, by unfold TxR; rw [hcat]; simpa using ho, hg, hloc⟩
  · obtain ⟨b, off, rfl, hc⟩ := hs.opened (by omega)
    obtain ⟨v', w', hr, ho, hg, _, hloc⟩ := run_append_own_at (P := Tryd.prog) w B 24 ty 9 i (.string ⟨#[]⟩) 1 16 Tryd.underlying24 hi hz hsz hby rfl (by decide) v n _ h ⟨b, off, none⟩ m c ((List.range m).map fun i => .string (g i)) (by simp) (fun j u hj => by
      have hjm : j < m := by have := (List.getElem?_eq_some_iff.1 hj).1; simpa using this
      rw [show ((⟨b, off, none⟩ : Addr).add j) = ⟨b, off + j, none⟩ from Go.WideShapes.add_plain _ _ _, hc j hjm]
      simpa [hjm] using hj) (fun u hu => by obtain ⟨j, _, rfl⟩ := List.mem_map.1 hu; rfl) (by unfold maxLen; omega) (by omega) hB
    exact ⟨v', w', hr, by unfold TxR; rw [hcat]; exact ho, hg, hloc⟩
theorem penC_cat (n : Nat) (A A' : Nat → Int) (D D' : Nat → ByteArray) (m : Nat) : (List.range ((n + m) * 2)).map (penC (catI n A A') (catT n D D')) = (List.range (n * 2)).map (penC A D) ++ (List.range (m * 2)).map (penC A' D') := by
  rw [Nat.add_mul, List.range_add, List.map_append, List.map_map]
  congr 1
  · exact List.map_congr_left (fun j hj => by
      have := List.mem_range.1 hj
      unfold penC catI catT
      rw [if_pos (show j / 2 < n by omega), if_pos (show j / 2 < n by omega)])
  · exact List.map_congr_left (fun j _ => by
      show penC _ _ (n * 2 + j) = _
      unfold penC catI catT
      rw [if_neg (show ¬ (n * 2 + j) / 2 < n by omega), if_neg (show ¬ (n * 2 + j) / 2 < n by omega), show (n * 2 + j) / 2 - n = j / 2 from by omega, show (n * 2 + j) % 2 = j % 2 from by omega])
set_option maxRecDepth 100000 in
/-- append of writes to a row of the call's own. -/
theorem appPn (w : World) (B : Nat) (v : Value) (n : Nat) (A : Nat → Int) (D : Nat → ByteArray) (a : Option Addr) (m c : Nat) (A' : Nat → Int) (D' : Nat → ByteArray) (ty : TypeId) (hB : B ≤ w.heap.size) (hn : n + m ≤ 1048576) (h : PnR w B v n A D) (hs : Pens w a m A' D') (ha : a = none → c = 0) :
    ∃ v' w', (Builtin.append_ #[25, 25] ty #[v, .slice a m c]).run Tryd.prog w = .ok v' w' ∧ PnR w' B v' (n + m) (catI n A A') (catT n D D') ∧ w.grownBy w' v.ownBlock ∧ (v'.ownBlock = v.ownBlock ∨ v'.ownBlock = some w.heap.size) := by
  obtain ⟨i, hi, hz, hsz, hby⟩ := info_parts Tryd.infoPen
  by_cases h0 : m = 0
  · subst h0
    have hcong : PnR w B v (n + 0) (catI n A A') (catT n D D') := by
      unfold PnR
      rw [penC_cat]
      simpa [PnR] using h
    cases a with
    | none =>
      obtain rfl := ha rfl
      exact ⟨v, w, run_append_owned_none w B 25 ty 68 i 2 Tryd.underlying25 hi v n _ h, hcong, ⟨rfl, rfl, rfl, Nat.le_refl _, fun _ _ _ => rfl⟩, .inl rfl⟩
    | some ad =>
      obtain ⟨v', w', hr, ho, hg, _, hloc⟩ := run_append_own_at (P := Tryd.prog) w B 25 ty 68 i _ 2 24 Tryd.underlying25 hi hz hsz hby rfl (by decide) v n _ h ad 0 c [] rfl (fun j u hj => by simp at hj) (fun u hu => by simp at hu) (by unfold maxLen; omega) (by omega) hB
      exact ⟨v', w', hr, by unfold PnR; rw [penC_cat]; simpa using ho, hg, hloc⟩
  · obtain ⟨b, off, rfl, hc⟩ := hs.opened (by omega)
    obtain ⟨v', w', hr, ho, hg, _, hloc⟩ := run_append_own_at (P := Tryd.prog) w B 25 ty 68 i _ 2 24 Tryd.underlying25 hi hz hsz hby rfl (by decide) v n _ h ⟨b, off, none⟩ m c ((List.range (m * 2)).map (penC A' D')) (by simp) (fun j u hj => by
      have hjm : j < m * 2 := by have := (List.getElem?_eq_some_iff.1 hj).1; simpa using this
      have hu : u = penC A' D' j := by simpa [hjm] using hj.symm
      rw [show ((⟨b, off, none⟩ : Addr).add j) = ⟨b, off + j, none⟩ from Go.WideShapes.add_plain _ _ _, hu]
      obtain ⟨h1, h2⟩ := hc (j / 2) (by omega)
      rcases (show j % 2 = 0 ∨ j % 2 = 1 by omega) with e | e
      · rw [show off + j = off + j / 2 * 2 from by omega, h1]; unfold penC; rw [if_pos e]
      · rw [show off + j = off + j / 2 * 2 + 1 from by omega, h2]; unfold penC; rw [if_neg (by omega)]) (fun u hu => by
      obtain ⟨j, _, rfl⟩ := List.mem_map.1 hu
      unfold penC
      split <;> rfl) (by unfold maxLen; omega) (by omega) hB
    exact ⟨v', w', hr, by unfold PnR; rw [penC_cat]; exact ho, hg, hloc⟩
theorem TxR.congr {w : World} {B : Nat} {v : Value} {n : Nat} {f f' : Nat → ByteArray} (h : TxR w B v n f) (e : ∀ i, i < n → f i = f' i) : TxR w B v n f' := by
  unfold TxR at *
  rwa [List.map_congr_left (fun i hi => by rw [← e i (List.mem_range.1 hi)])]
theorem PnR.congr {w : World} {B : Nat} {v : Value} {n : Nat} {A A' : Nat → Int} {D D' : Nat → ByteArray} (h : PnR w B v n A D) (e : ∀ i, i < n → A i = A' i ∧ D i = D' i) : PnR w B v n A' D' := by
  unfold PnR at *
  rwa [List.map_congr_left (fun i hi => by
    unfold penC
    obtain ⟨h1, h2⟩ := e (i / 2) (by have := List.mem_range.1 hi; omega)
    rw [← h1, ← h2])]
set_option maxRecDepth 100000 in
theorem copiedBlocks_any (a : Option Addr) (n c : Nat) (f : Nat → ByteArray) (hn : n ≤ 1048576) (ha : a = none → c = 0) (w : World) (h : Strs w a n f) :
    Calls Tryd.prog 43 #[.slice a n c] w fun e w' => (∃ v, e = .returned v ∧ TxR w' w.heap.size v n f) ∧ Below w.heap.size w w' := by
  obtain ⟨v', w', hr, ho, hg, -⟩ := appTx w w.heap.size (.slice none 0 0) 0 f a n c f 24 (Nat.le_refl _) (by omega) (TxR.nil _ _ _) h ha
  have HT : Hid (TxR w' w.heap.size v' n f) := by
    rw [Nat.zero_add] at ho
    exact ho.congr (fun i hi => by unfold catT; rw [if_neg (by omega), Nat.sub_zero])
  have HB : Hid (Below w.heap.size w w') := grown_belowD hg
  have HR : Hid _ := hr
  clear ho hg h ha hr
  go_enter Tryd.func43, Tryd.ntmps43
  go_wp2_with (at_builtin; refine Lib.wpList_append_run _ rfl (.const (.slice none 0 0)) (.tmp 3) _ _ rfl _ _ rfl rfl _ _ HR.out ?_)
  go_ret
  exact ⟨⟨v', rfl, HT.out⟩, HB.out⟩
end Go.Proofs.YtgdfhgepbamhmaaDoor
