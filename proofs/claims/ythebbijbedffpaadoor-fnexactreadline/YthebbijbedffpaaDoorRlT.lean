/-
  Lines: what trimming and cutting at blanks make of them, by places; TrimLeft, Trim, Cut, TrimPrefix, Atoi, Itoa of the seat.
-/
import Derived.Test.YthebbijbedffpaaDoorRlP
import Derived.Test.YthebbijbedffpaaDoorShL
import Derived.Test.YthebbijbedffpaaDoorRlNum
import Derived.Lib.AppendIntMem
namespace Go.Proofs.YthebbijbedffpaaDoor
open Go.ChangeShapes Go.WideShapes Go.ChangeAt Go.RowKit
set_option linter.unusedVariables false
/-- Ahead of the blanks that end at k. -/
def te (s : ByteArray) : Nat → Nat
  | 0 => 0
  | k + 1 => if byteAt s k = 32 then te s k else k + 1
theorem te_spec (s : ByteArray) : ∀ k, te s k ≤ k ∧ (∀ j, te s k ≤ j → j < k → byteAt s j = 32) ∧ (0 < te s k → byteAt s (te s k - 1) ≠ 32)
  | 0 => ⟨Nat.le_refl _, fun j h1 h2 => by omega, fun h => by simp [te] at h⟩
  | k + 1 => by
    unfold te
    split
    · rename_i e
      obtain ⟨h1, h2, h3⟩ := te_spec s k
      refine ⟨by omega, fun j a b => ?_, h3⟩
      rcases Nat.lt_or_ge j k with z | z
      · exact h2 j a z
      · obtain rfl : j = k := by omega
        exact e
    · rename_i e
      exact ⟨Nat.le_refl _, fun j h1 h2 => by omega, fun _ => e⟩
theorem te_uniq {s : ByteArray} {k j : Nat} (h1 : j ≤ k) (h2 : ∀ i, j ≤ i → i < k → byteAt s i = 32) (h3 : 0 < j → byteAt s (j - 1) ≠ 32) : te s k = j := by
  obtain ⟨a1, a2, a3⟩ := te_spec s k
  rcases Nat.lt_trichotomy (te s k) j with q | q | q
  · exact absurd (a2 (j - 1) (by omega) (by omega)) (h3 (by omega))
  · exact q
  · exact absurd (h2 (te s k - 1) (by omega) (by omega)) (a3 (by omega))
theorem te_gt {s : ByteArray} {i : Nat} (h : i < s.size) (hb : byteAt s i ≠ 32) : i < te s s.size := by
  obtain ⟨a1, a2, a3⟩ := te_spec s s.size
  rcases Nat.lt_or_ge i (te s s.size) with z | z
  · exact z
  · exact absurd (a2 i z h) hb
theorem ext_out {s : ByteArray} {a b : Nat} (h : s.size ≤ a ∨ b ≤ a) : s.extract a b = ⟨#[]⟩ := by
  have g : ∀ t : ByteArray, t.size = 0 → t = ⟨#[]⟩ := fun ⟨d⟩ h => by rw [Array.eq_empty_of_size_eq_zero h]
  exact g _ (by rw [ByteArray.size_extract]; omega)
theorem trimAll (t : ByteArray) : (⟨(Lib.trimB t.data.toList 32).toArray⟩ : ByteArray) = t.extract (nb t 0) (te t t.size) := by
  obtain ⟨a1, a2, a3, a4⟩ := nb_spec t 0
  obtain ⟨b1, b2, b3⟩ := te_spec t t.size
  have a2' := a2 (Nat.zero_le _)
  have hl : t.data.toList.length = t.size := rfl
  have hr : Lib.trimRightB t.data.toList 32 = t.data.toList.take (te t t.size) := Lib.trimRightB_take _ _ _ (by rw [hl]; exact b1) (fun j b hj hb => by
    have hk : j < t.size := by
      rcases Nat.lt_or_ge j t.size with z | z
      · exact z
      · rw [List.getElem?_eq_none (by rw [hl]; exact z)] at hb; cases hb
    have := (byteAt_sl t j hk).1 (b2 j hj hk)
    rw [this] at hb
    exact (Option.some.inj hb).symm) (fun b hk hb e => by
    rw [e] at hb
    exact b3 hk ((byteAt_sl t _ (by omega)).2 hb))
  unfold Lib.trimB
  rw [hr]
  rcases Nat.lt_or_ge (nb t 0) t.size with z | z
  · have hlt := te_gt z (a4 z)
    rw [Lib.trimLeftB_drop _ 32 (nb t 0) (by rw [List.length_take, hl]; omega) (fun j b hj hb => by
      rw [List.getElem?_take_of_lt (by omega)] at hb
      have := (byteAt_sl t j (by omega)).1 (a3 j (Nat.zero_le _) hj)
      rw [this] at hb
      exact (Option.some.inj hb).symm) (fun b hb e => by
      rw [List.getElem?_take_of_lt hlt, e] at hb
      exact a4 z ((byteAt_sl t _ z).2 hb))]
    apply ByteArray.ext
    apply Array.toList_inj.1
    simp only [ByteArray.data_extract, Array.toList_extract]
    rw [List.extract_eq_take_drop, List.drop_take]
  · have h0 : te t t.size = 0 := te_uniq (Nat.zero_le _) (fun i _ hi => a3 i (Nat.zero_le _) (by omega)) (fun h => by omega)
    rw [h0, ext_out (.inr (Nat.zero_le _))]
    rfl
/-- What stands from o on, without the blanks around. -/
def tX (s : ByteArray) (o : Nat) : ByteArray := s.extract (nb s o) (te s s.size)
theorem tX_out {s : ByteArray} {o : Nat} (h : s.size ≤ nb s o) : tX s o = ⟨#[]⟩ := ext_out (.inl h)
theorem tX_in {s : ByteArray} {o : Nat} (h : nb s o < s.size) : tX s o ≠ ⟨#[]⟩ := fun e => by
  have h1 := te_gt h ((nb_spec s o).2.2.2 h)
  have h2 := (te_spec s s.size).1
  have := congrArg ByteArray.size e
  rw [tX, extract_size _ _ _ h2] at this
  have h0 : (⟨#[]⟩ : ByteArray).size = 0 := rfl
  omega
theorem ext_emp (s : ByteArray) {o : Nat} (h : s.size < o) : s.extract o s.size = ⟨#[]⟩ := ext_out (.inl (by omega))
theorem trimL_at (s : ByteArray) (o : Nat) : (⟨(Lib.trimLeftB (s.extract o s.size).data.toList 32).toArray⟩ : ByteArray) = s.extract (nb s o) s.size := by
  rw [trimL]
  rcases Nat.lt_or_ge s.size o with h | h
  · rw [ext_emp s h, nb_out (by omega : s.size ≤ o), ext_emp s h]
    exact ext_out (.inl (Nat.zero_le _))
  · have hs : (s.extract o s.size).size = s.size - o := extract_size s o s.size (Nat.le_refl _)
    have e := nb_ext s o 0 (by omega)
    rw [Nat.add_zero] at e
    rw [extract_both s o _ _ (by omega), e, hs, show o + (s.size - o) = s.size from by omega]
theorem trim_at (s : ByteArray) (o : Nat) : (⟨(Lib.trimB (s.extract o s.size).data.toList 32).toArray⟩ : ByteArray) = tX s o := by
  rw [trimAll]
  rcases Nat.lt_or_ge s.size o with h | h
  · rw [ext_emp s h, tX_out (by have := (nb_spec s o).1; omega)]
    exact ext_out (.inl (Nat.zero_le _))
  · have hs : (s.extract o s.size).size = s.size - o := extract_size s o s.size (Nat.le_refl _)
    have e := nb_ext s o 0 (by omega)
    rw [Nat.add_zero] at e
    obtain ⟨b1, b2, b3⟩ := te_spec (s.extract o s.size) (s.extract o s.size).size
    obtain ⟨a1, a2, a3, a4⟩ := nb_spec (s.extract o s.size) 0
    have a2' := a2 (Nat.zero_le _)
    rcases Nat.lt_or_ge (nb s o) s.size with z | z
    · have z' : nb (s.extract o s.size) 0 < (s.extract o s.size).size := by omega
      have hlt := te_gt z' (a4 z')
      have ht : te s s.size = o + te (s.extract o s.size) (s.extract o s.size).size := te_uniq (by omega) (fun i h1 h2 => by
        have := b2 (i - o) (by omega) (by omega)
        rw [byteAt_extract, show o + (i - o) = i from by omega] at this
        exact this) (fun _ => by
        have := b3 (by omega)
        rw [byteAt_extract, show o + (te (s.extract o s.size) (s.extract o s.size).size - 1) = o + te (s.extract o s.size) (s.extract o s.size).size - 1 from by omega] at this
        exact this)
      rw [extract_both s o _ _ (by omega), e, ← ht]
      rfl
    · rw [tX_out z]
      exact ext_out (.inl (by omega))
/-- A cut at the first blank from a on, by places. -/
theorem cut_places {s : ByteArray} {a : Nat} {e : Ending} (h : CutIs (s.extract a s.size) 0 e) : ∃ b, e = .returned (.tuple #[.string (s.extract a (we s a)), .string (s.extract (we s a + 1) s.size), .bool b]) := by
  rcases Nat.lt_or_ge s.size a with q | q
  · have h1 : we s a = a := by rw [we, if_neg (by omega)]
    rw [ext_emp s q] at h
    rcases h with ⟨h, rfl⟩ | ⟨j, _, h, _⟩
    · refine ⟨false, ?_⟩
      rw [h1, ext_out (.inr (Nat.le_refl a)), ext_out (.inl (by omega : s.size ≤ a + 1)), ext_out (.inl (Nat.zero_le _))]
    · exact absurd h (Nat.not_lt_zero j)
  · have hs : (s.extract a s.size).size = s.size - a := extract_size s a s.size (Nat.le_refl _)
    rcases h with ⟨h, rfl⟩ | ⟨j, h1, h2, h3, h4, rfl⟩
    · have hw : we s a = s.size := we_uniq q (.inl (Nat.le_refl _)) (fun k h1 h2 => by
        have := h (k - a) (Nat.zero_le _) (by omega)
        rw [byteAt_extract, show a + (k - a) = k from by omega] at this
        exact this) (fun h => by omega) q
      refine ⟨false, ?_⟩
      rw [hw, ext_out (.inl (by omega : s.size ≤ s.size + 1)), ByteArray.extract_zero_size]
    · have hw : we s a = a + j := we_uniq (by omega) (.inl (by omega)) (fun k g1 g2 => by
        have := h4 (k - a) (Nat.zero_le _) (by omega)
        rw [byteAt_extract, show a + (k - a) = k from by omega] at this
        exact this) (fun _ => by rw [byteAt_extract] at h3; exact h3) q
      refine ⟨true, ?_⟩
      rw [hw, extract_both s a 0 j (by omega), extract_both s a (j + 1) _ (by omega), hs, show a + (s.size - a) = s.size from by omega]
      rfl
theorem trimLeft_at (s : ByteArray) (o : Nat) (w : World) :
    Calls Tryd.prog 36 #[.string (s.extract o s.size), .string ⟨#[32]⟩] w fun e w' => e = .returned (.string (s.extract (nb s o) s.size)) ∧ w' = w := by
  have := Any.strings_TrimLeft_one shLays161 (s.extract o s.size) 32 (by decide) w
  rw [trimL_at] at this
  exact this
theorem heapEq {w w' : World} (h : w' = w ∨ w' = w.drew) : w'.heap = w.heap ∧ Below w.heap.size w w' := by
  rcases h with rfl | rfl
  · exact ⟨rfl, Below.refl _ _⟩
  · exact ⟨rfl, (Below.refl _ _).drew⟩
theorem trim_any (s : ByteArray) (hs : s.size ≤ 1048576) (o : Nat) (w : World) :
    Calls Tryd.prog 37 #[.string (s.extract o s.size), .string ⟨#[32]⟩] w fun e w' => e = .returned (.string (tX s o)) ∧ w'.heap = w.heap ∧ Below w.heap.size w w' := by
  have := Any.strings_Trim_one shLays160 (s.extract o s.size) 32 (by decide) w (by rw [ByteArray.size_extract]; omega)
  rw [trim_at] at this
  exact this.mono fun e w' h => ⟨h.1, heapEq h.2⟩
theorem cut_at (s : ByteArray) (hs : s.size ≤ 1048576) (a : Nat) (w : World) :
    Calls Tryd.prog 35 #[.string (s.extract a s.size), .string ⟨#[32]⟩] w fun e w' => (∃ b, e = .returned (.tuple #[.string (s.extract a (we s a)), .string (s.extract (we s a + 1) s.size), .bool b])) ∧ w'.heap = w.heap ∧ Below w.heap.size w w' :=
  (cut_any (s.extract a s.size) w (by rw [ByteArray.size_extract]; omega)).mono fun e w' h => ⟨cut_places h.1, h.2.2, h.2.1⟩
theorem trimPre_any (t : ByteArray) (w : World) :
    Calls Tryd.prog 41 #[.string t, .string ⟨#[45]⟩] w fun e w' => e = .returned (.string ⟨(Lib.trimPrefix t.data.toList [45]).toArray⟩) ∧ w' = w := Any.strings_TrimPrefix shLays101 t ⟨#[45]⟩ w
/-- The table of powers and the two errors of package strconv. -/
def EnvN (B : Nat) (w : World) : Prop := Lib.TabBelow Tryd.prog B w "internal/strconv.uint64pow10" .u64 Lib.pow10Tab ∧ (∃ t p, w.cell? ⟨1, 0, none⟩ = some (.iface t p)) ∧ (∃ t p, w.cell? ⟨2, 0, none⟩ = some (.iface t p)) ∧ 1 < B ∧ 2 < B
theorem EnvN.on {B : Nat} {w w' : World} (h : EnvN B w) (hb : Below B w w') : EnvN B w' := by
  obtain ⟨h1, ⟨t1, p1, h2⟩, ⟨t2, p2, h3⟩, h4, h5⟩ := h
  exact ⟨h1.on hb, ⟨t1, p1, by rw [hb.cell h4]; exact h2⟩, ⟨t2, p2, by rw [hb.cell h5]; exact h3⟩, h4, h5⟩
/-- What Atoi says of a word. -/
def AtoiS (l : List UInt8) (e : Ending) : Prop := ∃ n : Int, -9223372036854775808 ≤ n ∧ n ≤ 9223372036854775807 ∧ ((Lib.atoiAll l = .ok n ∧ e = .returned (.tuple #[.int .i64 n, .nilIface])) ∨ ((∀ v, Lib.atoiAll l ≠ .ok v) ∧ ∃ t v, e = .returned (.tuple #[.int .i64 n, .iface t v])))
theorem atoi_any (t : ByteArray) (ht : t.size ≤ 1048576) (B : Nat) (w : World) (hB : B ≤ w.heap.size) (hE : EnvN B w) :
    Calls Tryd.prog 40 #[.string t] w fun e w' => AtoiS t.data.toList e ∧ Below w.heap.size w w' := by
  obtain ⟨h1, ⟨t1, p1, h2⟩, ⟨t2, p2, h3⟩, h4, h5⟩ := hE
  cases hk : Lib.atoiAll t.data.toList with
  | ok v =>
    obtain ⟨c1, c2⟩ := Lib.atoiAll_bounds hk
    refine (Any.strconv_Atoi_ok shLays172 t (by omega) v hk w).mono fun e w' ⟨he, hw⟩ => ⟨⟨v, c1, c2, .inl ⟨hk, he⟩⟩, ?_⟩
    rcases hw with rfl | ⟨u, rfl⟩
    · exact Below.refl _ _
    · exact Lib.bytesWorld_below _ _ _
  | «syntax» =>
    refine (Any.strconv_Atoi_syntax shLays172 t (by omega) hk _ w h2 (.inr ⟨_, _, rfl⟩)).mono fun e w' ⟨N, he, _, _, hb⟩ => ⟨⟨0, by omega, by omega, .inr ⟨fun v hv => (by rw [hk] at hv; cases hv), _, _, he⟩⟩, hb⟩
  | range =>
    obtain ⟨c1, c2⟩ := Lib.atoiSat_bounds t.data.toList
    refine (Any.strconv_Atoi_range shLays172 t (by omega) hk _ w h3 (.inr ⟨_, _, rfl⟩)).mono fun e w' ⟨N, he, _, _, hb⟩ => ⟨⟨_, c1, c2, .inr ⟨fun v hv => (by rw [hk] at hv; cases hv), _, _, he⟩⟩, hb⟩
theorem itoa_any (n : Int) (h0 : -9223372036854775808 ≤ n) (h1 : n ≤ 9223372036854775807) (B : Nat) (w : World) (hE : EnvN B w) :
    Calls Tryd.prog 42 #[.int .i64 n] w fun e w' => e = .returned (.string ⟨(Lib.itoa n).toArray⟩) ∧ Below w.heap.size w w' :=
  (Any.strconv_Itoa shLays171 n h0 h1 w hE.1.here).mono fun e w' ⟨he, k, os, hw⟩ => ⟨he, by rw [hw]; exact Lib.below_grow _ _ (Nat.le_refl _) k os⟩
end Go.Proofs.YthebbijbedffpaaDoor
