/-
  The model: l11Code, l11New, l11Put, l11Mkdir, MakeDir.
-/
import Derived.Test.YtendfgepmjgldacFileOkS
import Derived.Test.YtendfgepmjgldacFileMk
import Derived.Test.YtendfgepmjgldacFileP
namespace Go.Proofs.Ytendfgepmjgldac
open Go.ChangeShapes Go.WideShapes Go.ChangeAt Go.RowKit
set_option linter.unusedVariables false
set_option maxRecDepth 100000 in
set_option maxHeartbeats 1000000 in
theorem l11Code_any (a : Option Addr) (n c : Nat) (F : Nat → Fi) (p : ByteArray) (hsz : ∀ i, i < n → (F i).p.size ≤ 1048576) (hnn : n ≤ 1048576) (hp : p.size ≤ 1048576) (w : World) (h : Els w 3 a n (fiF F)) :
    Calls Try.prog 31 #[.slice a n c, .string p] w fun e w' => (∃ x : Int, e = .returned (.int .i64 x) ∧ FtIs n F 1 (fun _ => p) x) ∧ Below w.heap.size w w' := by
  have HL : Hid (LongT 1 (fun _ => p) ↔ 65536 < p.size) := by
    show _ ↔ _
    exact ⟨fun ⟨i, _, q⟩ => q, fun q => ⟨0, by omega, q⟩⟩
  by_cases h0 : 4096 < n
  · have g0 : (4096 : Int) < (n : Int) := by omega
    have HX : Hid (FtIs n F 1 (fun _ => p) 2) := .inl ⟨.inl h0, rfl⟩
    clear h hsz HL
    go_enter Try.func31, Try.ntmps31
    go_wp2
    go_ret
    exact ⟨⟨_, rfl, HX.out⟩, Below.refl _ _⟩
  · have g0 : ¬ (4096 : Int) < (n : Int) := by omega
    by_cases h1 : 65536 < p.size
    · have g1 : (65536 : Int) < (p.size : Int) := by omega
      have HX : Hid (FtIs n F 1 (fun _ => p) 2) := .inl ⟨.inr (HL.out.2 h1), rfl⟩
      clear h hsz HL
      go_enter Try.func31, Try.ntmps31
      go_wp2
      go_ret
      exact ⟨⟨_, rfl, HX.out⟩, Below.refl _ _⟩
    · have g1 : ¬ (65536 : Int) < (p.size : Int) := by omega
      have HN : Hid (¬ (4096 < n ∨ LongT 1 (fun _ => p))) := fun q => q.elim h0 (fun q => h1 (HL.out.1 q))
      have FO : Hid (Calls Try.prog 42 #[.slice a n c] w fun e w' => Says e (FsOk n F) ∧ Below w.heap.size w w') := specFilesOK_any a n c F hsz hnn w h
      have PO : Hid (∀ w : World, Calls Try.prog 57 #[.string p] w fun e w' => Says e (PathOk p) ∧ Below w.heap.size w w') := l11Path_any p (by unfold maxLen; omega)
      clear h hsz HL h0 h1
      go_enter Try.func31, Try.ntmps31
      go_wp2_with fail
      refine (Calls.mono FO.out) ?_
      rintro e v1 ⟨⟨y, rfl, hy⟩, hb⟩
      have B1 : Hid (Below w.heap.size w v1) := hb
      have HY : Hid (y = true ↔ FsOk n F) := hy
      clear hb hy FO
      cases y with
      | false =>
        have HX : Hid (FtIs n F 1 (fun _ => p) 1) := .inr ⟨HN.out, .inl ⟨(fun q => by have := HY.out.2 q; cases this), rfl⟩⟩
        clear HY
        go_wp2
        go_ret
        exact ⟨⟨_, rfl, HX.out⟩, B1.out⟩
      | true =>
        have HO : Hid (FsOk n F) := HY.out.1 rfl
        clear HY
        go_wp2_with fail
        refine (PO.out _).mono ?_
        rintro e v2 ⟨⟨y, rfl, hy⟩, hb⟩
        have B2 : Hid (Below w.heap.size w v2) := B1.out.trans (hb.mono B1.out.size)
        have HY : Hid (y = true ↔ PathOk p) := hy
        clear hb hy PO B1
        cases y with
        | false =>
          have HX : Hid (FtIs n F 1 (fun _ => p) 16) := .inr ⟨HN.out, .inr ⟨HO.out, .inl ⟨⟨0, by omega, fun q => by have := HY.out.2 q; cases this⟩, rfl⟩⟩⟩
          clear HY
          go_wp2
          go_ret
          exact ⟨⟨_, rfl, HX.out⟩, B2.out⟩
        | true =>
          have HX : Hid (FtIs n F 1 (fun _ => p) 0) := .inr ⟨HN.out, .inr ⟨HO.out, .inr ⟨fun _ _ => HY.out.1 rfl, rfl⟩⟩⟩
          clear HY
          go_wp2
          go_ret
          exact ⟨⟨_, rfl, HX.out⟩, B2.out⟩
theorem PutIs.le {n : Nat} {F : Nat → Fi} {f : Fi} {m : Nat} {G : Nat → Fi} (h : PutIs n F f m G) : m ≤ n + 1 := by
  rcases h with ⟨_, _, _, rfl, _⟩ | ⟨_, rfl, _⟩ <;> omega
/-- A copy of files of one's own: append([]File{}, out...). -/
theorem ownAll {w : World} {a : Option Addr} {m c : Nat} {G : Nat → Fi} (hm : m ≤ 100000) (h : Els w 3 a m (fiF G)) (hz : a = none → c = 0) :
    ∃ a' c' w', (∀ ty, (Builtin.append_ #[24, 24] ty #[.slice (some ⟨w.heap.size, 0, none⟩) 0 0, .slice a m c]).run Try.prog (w.alloc (.cells #[] 52)) = .ok (.slice a' m c') w') ∧ EO w' w.heap.size 52 3 (.slice a' m c') m (fiF G) ∧ Below w.heap.size w w' := by
  have WB : Below w.heap.size w (w.alloc (.cells #[] 52)) := (Below.refl _ _).alloc (Nat.le_refl _) _
  obtain ⟨v', w', hr, ho, hg, hloc⟩ := allFi (w.alloc (.cells #[] 52)) w.heap.size (.slice (some ⟨w.heap.size, 0, none⟩) 0 0) 0 G a m c G (by simp) (by omega) (EO.lit w w.heap.size _ 3 (Nat.le_refl _) _) (h.below WB) hz
  rw [Nat.zero_add, catE_zero] at ho
  obtain ⟨a', c', rfl⟩ := ho.form
  exact ⟨a', c', w', hr, ho, WB.grown hg (by simp) (fun g e => by cases e; exact Nat.le_refl _)⟩
end Go.Proofs.Ytendfgepmjgldac
