/-
  Rows of bytes of a call's own, nil ones too, as lists: appends, and appendNumber.
-/
import Derived.Test.YtglfhajfbdjjcaaRowL
namespace Go.Proofs.Ytglfhajfbdjjcaa
open Go.ChangeShapes Go.WideShapes Go.ChangeAt Go.RowKit
set_option linter.unusedVariables false
/-- v is a slice of the call's own that holds L, or nil and L is empty. -/
def OL (w : World) (B : Nat) (v : Value) (L : List Nat) : Prop := w.ownsRow B 5 1 v L.length (lv L)
theorem OL.nil (w : World) (B : Nat) : OL w B (.slice none 0 0) [] := ⟨by simp [lv], .inl ⟨rfl, rfl⟩⟩
theorem OL.lit (w : World) (B : Nat) (hB : B ≤ w.heap.size) : OL (w.alloc (.cells #[] 5)) B (.slice (some ⟨w.heap.size, 0, none⟩) 0 0) [] := World.ownsRow_made w #[] 0 hB (Nat.zero_le _) (by simp)
theorem OL.form {w : World} {B : Nat} {v : Value} {L : List Nat} (h : OL w B v L) : ∃ a c, v = .slice a L.length c := by
  obtain ⟨hl, ⟨h1, h2⟩ | ⟨g', cap, cur, hv, _⟩⟩ := h
  · rw [h2]; exact ⟨_, _, h1⟩
  · exact ⟨_, _, hv⟩
theorem OL.ge {w : World} {B : Nat} {v : Value} {L : List Nat} (h : OL w B v L) (g : Nat) (e : v.ownBlock = some g) : B ≤ g ∧ g < w.heap.size := World.ownsRow.lt h g e
theorem OL.keep {w w' : World} {B : Nat} {v : Value} {L : List Nat} (h : OL w B v L) (e : ∀ g, v.ownBlock = some g → w'.heap[g]? = w.heap[g]?) : OL w' B v L := by
  obtain ⟨hl, h0 | ⟨g', cap, cur, hv, hB, hh, hr⟩⟩ := h
  · exact ⟨hl, .inl h0⟩
  · subst hv
    exact ⟨hl, .inr ⟨g', cap, cur, rfl, hB, by rw [e g' rfl]; exact hh, hr⟩⟩
theorem OL.below {w w' : World} {B : Nat} {v : Value} {L : List Nat} (h : OL w B v L) (hb : Below w.heap.size w w') : OL w' B v L := h.keep (fun g e => hb.block g (h.ge g e).2)
theorem OL.mono {w : World} {B B' : Nat} {v : Value} {L : List Nat} (h : OL w B v L) (hb : B' ≤ B) : OL w B' v L := by
  obtain ⟨hl, h0 | ⟨g', cap, cur, hv, hB, hr⟩⟩ := h
  · exact ⟨hl, .inl h0⟩
  · exact ⟨hl, .inr ⟨g', cap, cur, hv, Nat.le_trans hb hB, hr⟩⟩
theorem OL.grown {w w' : World} {B : Nat} {v : Value} {L : List Nat} (h : OL w B v L) (hg : w.grownBy w' v.ownBlock) (hB : B ≤ w.heap.size) : Below B w w' :=
  ⟨hg.os, hg.tape, hg.output, hg.size, fun b hb => hg.block b (by omega) (fun e => by have := (h.ge b e.symm).1; omega)⟩
theorem RL.ol {w : World} {B g c : Nat} {L : List Nat} (h : RL w B g c L) : OL w B (.slice (some ⟨g, 0, none⟩) L.length c) L := h
set_option maxRecDepth 100000 in
/-- append of bytes that lie at ⟨q, o⟩. -/
theorem OL.app (w : World) (B : Nat) (v : Value) (L N : List Nat) (q o cq m : Nat) (hm : m = N.length) (hB : B ≤ w.heap.size) (hl : L.length + N.length ≤ 1000000) (h : OL w B v L) (hN : ∀ j (hj : j < N.length), w.cell? ⟨q, o + j, none⟩ = some (.int .u8 ((N[j] : Nat) : Int))) :
    ∃ v' w', (∀ ty, (Builtin.append_ #[30, 30] ty #[v, .slice (some ⟨q, o, none⟩) m cq]).run Try.prog w = .ok v' w') ∧ OL w' B v' (L ++ N) ∧ Below B w w' ∧ w.grownBy w' v.ownBlock := by
  subst hm
  obtain ⟨i, hi, hz, hsz, hby⟩ := info_parts Try.infoB8
  obtain ⟨v', w', hr, ho, hg, hne, hloc⟩ := run_append_own_at (P := Try.prog) w B 30 30 5 i (.int .u8 0) 1 1 Try.underlying30 hi hz hsz hby rfl (by decide) _ L.length _ h ⟨q, o, none⟩ N.length cq (lv N) (by rw [lv_length, Nat.mul_one]) (fun j u hj => by
    rw [Go.WideShapes.add_plain]
    unfold lv at hj
    rw [List.getElem?_map, Option.map_eq_some_iff] at hj
    obtain ⟨b, hb, rfl⟩ := hj
    obtain ⟨hj', rfl⟩ := List.getElem?_eq_some_iff.1 hb
    exact hN j hj') (fun u hu => by
      obtain ⟨_, _, rfl⟩ := List.mem_map.1 hu
      rfl) (by unfold maxLen; omega) (by omega) hB
  rw [← lv_append, ← List.length_append] at ho
  exact ⟨v', w', fun ty => hr, ho, h.grown hg hB, hg⟩
set_option maxRecDepth 100000 in
/-- append of a text. -/
theorem OL.appS (w : World) (B : Nat) (v : Value) (L : List Nat) (s : ByteArray) (hB : B ≤ w.heap.size) (hl : L.length + s.size ≤ 1000000) (h : OL w B v L) :
    ∃ v' w', (∀ ty, (Builtin.append_ #[30, 9] ty #[v, .string s]).run Try.prog w = .ok v' w') ∧ OL w' B v' (L ++ strL s) ∧ Below B w w' ∧ w.grownBy w' v.ownBlock := by
  obtain ⟨i, hi, hz, hsz, hby⟩ := info_parts Try.infoB8
  obtain ⟨v', w', hr, ho, hg, hne⟩ := Lib.run_append_own_string (P := Try.prog) w B 30 9 30 5 i Try.underlying30 Try.underlying9 hi hz hsz hby _ L.length _ h s (by unfold maxLen; omega) (by omega) hB
  have e1 : Lib.strCells s = lv (strL s) := by
    unfold Lib.strCells lv strL
    simp
  rw [e1, ← lv_append, ← strL_length s, ← List.length_append] at ho
  exact ⟨v', w', fun ty => hr, ho, h.grown hg hB, hg⟩
set_option maxRecDepth 100000 in
set_option maxHeartbeats 2000000 in
/-- impl.appendNumber onto a row of the call's own, nil too. -/
theorem appendNumberO (B : Nat) (a : Option Addr) (n c x sz : Nat) (L : List Nat) (hn : n = L.length) (hsz : sz ≤ 8) (hk : L.length ≤ 900000) (w : World) (hB : B ≤ w.heap.size) (h : OL w B (.slice a n c) L) :
    Calls Try.prog 100 #[.slice a n c, .int .i64 (x : Int), .int .i64 (sz : Int)] w fun e w' => (∃ a' c', e = .returned (.slice a' (n + sz) c') ∧ OL w' B (.slice a' (n + sz) c') (L ++ numL sz x)) ∧ Below B w w' := by
  have HR : Hid (OL w B (.slice a n c) L) := h
  have HK : Hid (L.length ≤ 900000) := hk
  have HN : Hid (n = L.length) := hn
  have HBB : Hid (B ≤ w.heap.size) := hB
  clear h hk hB hn
  go_enter Try.func100, Try.ntmps100
  go_wp2
  go_loopw [0, 7] (fun s i wr => ∃ (r c2 : Nat) (a2 : Option Addr), r ≤ sz ∧ i = .int .i64 ((sz : Int) - 1 - (r : Int)) ∧ s = .slice a2 (n + r) c2 ∧ OL wr B (.slice a2 (n + r) c2) (L ++ numP sz x r) ∧ Below B w wr) (fun _ i _ => (intOf i + 1).toNat)
  case atStart => exact ⟨0, c, a, by omega, numEqL (by omega), rfl, by unfold numP; simpa using HR.out, Below.refl _ _⟩
  case round =>
    clear HR
    obtain ⟨r, c2, a2, hr, rfl, rfl, hrow, ho⟩ := hrel
    have HR : Hid (OL wr B (.slice a2 (n + r) c2) (L ++ numP sz x r)) := hrow
    have HO : Hid (Below B w wr) := ho
    clear hrow ho
    by_cases hlt : r < sz
    · have x0 : (0 : Int) ≤ (sz : Int) - 1 - (r : Int) := by omega
      obtain ⟨s, hs⟩ : ∃ s, s = 8 * (sz - 1 - r) := ⟨_, rfl⟩
      have e8 : (8 : Int) * ((sz : Int) - 1 - (r : Int)) = (s : Int) := by omega
      have s0 : (0 : Int) ≤ (s : Int) := by omega
      have s1 : (s : Int) ≤ 64 := by omega
      have eX : (x : Int) / 2 ^ s = ((x / 2 ^ s : Nat) : Int) := by simp
      have HX : Hid (numP sz x (r + 1) = numP sz x r ++ [x / 2 ^ s % 256]) := by show _ = _; rw [numP_succ, hs]
      generalize x / 2 ^ s = y at *
      have eY : (y : Int) % 256 = ((y % 256 : Nat) : Int) := by omega
      generalize y % 256 = Y at *
      have hw : (w.heap.size ≤ wr.heap.size) := HO.out.size
      have hb : Below wr.heap.size wr (wr.alloc (.cells #[.int .u8 (Y : Nat)] 5)) := (Below.refl _ _).alloc (Nat.le_refl _) _
      obtain ⟨v3, w3, hr3, hrow3, ho3, _⟩ := OL.app (wr.alloc (.cells #[.int .u8 (Y : Nat)] 5)) B (.slice a2 (n + r) c2) (L ++ numP sz x r) [Y] wr.heap.size 0 1 1 rfl (by have := HBB.out; simp; omega) (by have := HK.out; rw [List.length_append, numP_length]; simp; omega) (HR.out.below hb) (fun j hj => by
        obtain rfl : j = 0 := by simpa using hj
        have : ((wr.alloc (.cells #[.int .u8 (Y : Nat)] 5)).rowIs wr.heap.size 5 1 (fun _ => .int .u8 (Y : Nat))) := World.rowIs_alloc wr #[.int .u8 (Y : Nat)] 5 _ (fun i hi => by
          obtain rfl : i = 0 := by simpa using hi
          rfl)
        exact this.cell (by omega))
      obtain ⟨a3, c3, rfl⟩ := hrow3.form
      have el2 : (L ++ numP sz x r ++ [Y]).length = n + (r + 1) := by rw [List.length_append, List.length_append, numP_length, HN.out]; simp; omega
      rw [el2] at hr3 hrow3
      have HR3 : Hid (OL w3 B (.slice a3 (n + (r + 1)) c3) (L ++ numP sz x (r + 1))) := by show OL _ _ _ _; rw [HX.out, ← List.append_assoc]; exact hrow3
      have HO3 : Hid (Below B w w3) := HO.out.trans ((hb.mono (by have := HBB.out; omega)).trans ho3)
      have hHK : Hid ((sz : Int) - 1 - (r : Int) - 1 = (sz : Int) - 1 - ((r + 1 : Nat) : Int)) := by show _ = _; omega
      clear hrow3 ho3 hs HR HO HX el2 hb
      go_wp2_with (at_builtin; refine Lib.wpList_append_run _ rfl (.tmp 14) (.tmp 20) 30 30 rfl (.slice a2 (n + r) c2) (.slice (some ⟨wr.heap.size, 0, none⟩) 1 1) rfl rfl _ _ (hr3 _) ?_)
      go_roundw
      case rel => exact ⟨r + 1, c3, a3, by omega, numEqL hHK.out, rfl, HR3.out, HO3.out⟩
      case measure => simp [intOf]; omega
    · obtain rfl : r = sz := by omega
      have x0 : ¬ (0 : Int) ≤ (r : Int) - 1 - (r : Int) := by omega
      go_wp2
      go_ret
      exact ⟨⟨a2, c2, rfl, HR.out⟩, HO.out⟩
end Go.Proofs.Ytglfhajfbdjjcaa
