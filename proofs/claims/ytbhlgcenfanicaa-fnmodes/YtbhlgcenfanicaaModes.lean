/-
  Contracts of what the program's modes lean on: modeFault, addInto.
-/
import Derived.Test.YtbhlgcenfanicaaPad
import Derived.Test.YtbhlgcenfanicaaEImpl
import Derived.Test.YtbhlgcenfanicaaModesMath
import Derived.Test.YtbhlgcenfanicaaJump
namespace Go.Proofs.Ytbhlgcenfanicaa
open Go.ChangeShapes Go.WideShapes Go.ChangeAt Go.RowKit
theorem mf_long (k s : ByteArray) (size count most : Int) (h : 65536 < k.size ∨ 65536 < s.size ∨ most < count) (w : World) :
    Calls Try.prog 24 #[.string k, .string s, .int .i64 size, .int .i64 count, .int .i64 most] w fun e w' => e = .returned (.int .i64 2) ∧ w = w' := by
  by_cases h1 : 65536 < k.size
  · have e1 : (65536 : Int) < k.size := by omega
    go_enter Try.func24, Try.ntmps24
    go_wp2
    go_ret
    exact ⟨rfl, rfl⟩
  · have e1 : ¬ (65536 : Int) < k.size := by omega
    by_cases h2 : 65536 < s.size
    · have e2 : (65536 : Int) < s.size := by omega
      go_enter Try.func24, Try.ntmps24
      go_wp2
      go_ret
      exact ⟨rfl, rfl⟩
    · have e2 : ¬ (65536 : Int) < s.size := by omega
      have e3 : most < count := by omega
      go_enter Try.func24, Try.ntmps24
      go_wp2
      go_ret
      exact ⟨rfl, rfl⟩
theorem mf_bad (k s : ByteArray) (size count most : Int) (h1 : k.size ≤ 65536) (h2 : s.size ≤ 65536) (h3 : count ≤ most) (h : ¬ ((k.size = 16 ∨ k.size = 32) ∧ (s.size : Int) = size)) (w : World) :
    Calls Try.prog 24 #[.string k, .string s, .int .i64 size, .int .i64 count, .int .i64 most] w fun e w' => e = .returned (.int .i64 1) ∧ w = w' := by
  have e1 : ¬ (65536 : Int) < k.size := by omega
  have e2 : ¬ (65536 : Int) < s.size := by omega
  have e3 : ¬ most < count := by omega
  by_cases hk : k.size = 16 ∨ k.size = 32
  · have e4 : ((s.size : Int) != size) = true := by rw [bne_iff_ne]; omega
    have KO : Hid (∀ w : World, Calls Try.prog 48 #[.string k] w fun e w' => e = .returned (.bool true) ∧ w = w') := fun w => (keyOK_yes k hk w).mono fun e w' h => ⟨h.1, h.2.symm⟩
    clear h hk
    go_enter Try.func24, Try.ntmps24
    go_wp2_with (go_at_call 48; refine (KO.out _).mono ?_; rintro e w' ⟨rfl, rfl⟩)
    go_ret
    exact ⟨rfl, rfl⟩
  · have KO : Hid (∀ w : World, Calls Try.prog 48 #[.string k] w fun e w' => e = .returned (.bool false) ∧ w = w') := fun w => (keyOK_no k (by omega) (by omega) w).mono fun e w' h => ⟨h.1, h.2.symm⟩
    clear h hk
    go_enter Try.func24, Try.ntmps24
    go_wp2_with (go_at_call 48; refine (KO.out _).mono ?_; rintro e w' ⟨rfl, rfl⟩)
    go_ret
    exact ⟨rfl, rfl⟩
theorem mf_ok (k s : ByteArray) (size count most : Int) (h3 : count ≤ most) (hk : k.size = 16 ∨ k.size = 32) (hs : (s.size : Int) = size) (hs' : size ≤ 65536) (w : World) :
    Calls Try.prog 24 #[.string k, .string s, .int .i64 size, .int .i64 count, .int .i64 most] w fun e w' => e = .returned (.int .i64 0) ∧ w = w' := by
  have e1 : ¬ (65536 : Int) < k.size := by omega
  have e2 : ¬ (65536 : Int) < s.size := by omega
  have e3 : ¬ most < count := by omega
  have e4 : ((s.size : Int) != size) = false := by rw [bne_eq_false_iff_eq]; omega
  have KO : Hid (∀ w : World, Calls Try.prog 48 #[.string k] w fun e w' => e = .returned (.bool true) ∧ w = w') := fun w => (keyOK_yes k hk w).mono fun e w' h => ⟨h.1, h.2.symm⟩
  clear hk hs
  go_enter Try.func24, Try.ntmps24
  go_wp2_with (go_at_call 48; refine (KO.out _).mono ?_; rintro e w' ⟨rfl, rfl⟩)
  go_ret
  exact ⟨rfl, rfl⟩
theorem OnlyB.drew8 {b : Nat} {w w' : World} (h : OnlyB b w w') : OnlyB b w w'.drew := ⟨h.os, h.tape, h.output, h.size, h.block⟩
set_option maxRecDepth 100000 in
set_option maxHeartbeats 2000000 in
/-- impl.addInto: over a part of a row of the caller's own. -/
theorem addInto_any (b o n c M : Nat) (F g : Nat → Nat) (hF : ∀ i, F i < 256) (hg : ∀ i, i < 16 → g i < 256) (hn : n ≤ 16) (hM : o + n ≤ M) (w : World) (h : Own8 w b M F) :
    Calls Try.prog 27 #[.slice (some ⟨b, o, none⟩) n c, .agg (bA 16 g)] w fun e w' => e = .returned (.tuple #[]) ∧ Own8 w' b M (fun i => if o ≤ i ∧ i < o + n then F i ^^^ g (i - o) else F i) ∧ OnlyB b w w' := by
  have hbl := h.lt
  have HO : Hid (Own8 (w.alloc (.cells (bA 16 g) 39)) b M F) := h.alloc _
  have HS : Hid (Row8 (w.alloc (.cells (bA 16 g) 39)) w.heap.size 39 16 g) := Row8.boxedAt rfl _ _ _
  have HB : Hid (OnlyB b w (w.alloc (.cells (bA 16 g) 39))) := (OnlyB.refl _ _).below ((Below.refl _ _).alloc (Nat.le_refl _) _)
  have HF : Hid (∀ i, F i < 256) := hF
  have HG : Hid (∀ i, i < 16 → g i < 256) := hg
  clear h hF hg
  go_enter Try.func27, Try.ntmps27
  go_wp2_with fail
  generalize w.alloc (.cells (bA 16 g) 39) = wz at *
  generalize bA 16 g = GA at *
  go_loopw [4, 7] (fun _ i wr => ∃ k : Nat, k ≤ n ∧ i = .int .i64 k ∧ Own8 wr b M (fun x => if o ≤ x ∧ x < o + k then F x ^^^ g (x - o) else F x) ∧ Row8 wr w.heap.size 39 16 g ∧ OnlyB b w wr) (fun _ i _ => n - (intOf i).toNat)
  case atStart => exact ⟨0, by omega, rfl, HO.out.congr (fun j hj => by rw [if_neg (by omega)]), HS.out, HB.out⟩
  case round =>
    clear HO HS HB
    obtain ⟨k, hk, rfl, ho, hs, hb⟩ := hrel
    have HO : Hid (Own8 wr b M (fun x => if o ≤ x ∧ x < o + k then F x ^^^ g (x - o) else F x)) := ho
    have HS : Hid (Row8 wr w.heap.size 39 16 g) := hs
    have HB : Hid (OnlyB b w wr) := hb
    by_cases hlt : k < n
    · have c1 := ho.cell (i := o + k) (by omega)
      simp only [Nat.lt_irrefl, and_false, if_false] at c1
      have f1 := ho.frozen (o + k)
      have c2 := World.rowIs.cell hs (i := k) (by omega)
      have l1 := HF.out (o + k)
      have l2 := HG.out k (by omega)
      have ex : bits .xor .u8 (F (o + k) : Int) (g k : Int) = ((F (o + k) ^^^ g k : Nat) : Int) := u8_xor_nat _ _ l1 l2
      have x0 : (0 : Int) ≤ (k : Int) := by omega
      have x1 : (k : Int) < (n : Int) := by omega
      have x2 : (k : Int) < 16 := by omega
      have HV : Hid (∀ v, v = F (o + k) ^^^ g k → ∀ x, x < M → (if x = o + k then v else if o ≤ x ∧ x < o + k then F x ^^^ g (x - o) else F x) = if o ≤ x ∧ x < o + (k + 1) then F x ^^^ g (x - o) else F x) := fun v hv x hx => by
        by_cases e : x = o + k
        · subst e
          rw [if_pos rfl, if_pos (by omega), hv, show o + k - o = k from by omega]
        · rw [if_neg e]
          by_cases e2 : o ≤ x ∧ x < o + k
          · rw [if_pos e2, if_pos (by omega)]
          · rw [if_neg e2, if_neg (by omega)]
      obtain ⟨V, hV⟩ : ∃ V, V = F (o + k) ^^^ g k := ⟨_, rfl⟩
      have HE : Hid (V = F (o + k) ^^^ g k) := hV
      rw [← hV] at ex
      clear hV ho hs hb
      generalize F (o + k) = A1 at *
      generalize g k = A2 at *
      go_wp2_with fail
      go_region
      go_wp2
      go_roundw
      case rel =>
        refine ⟨k + 1, by omega, by go_num, ?_, ?_, ?_⟩
        · exact (HO.out.set (o + k) V).congr (HV.out V HE.out)
        · exact HS.out.other (by show w.heap.size ≠ b; omega) _
        · exact (HB.out.setCell _ _).drew8
      case measure => simp [intOf]; omega
    · have x1 : ¬ (k : Int) < (n : Int) := by omega
      have HO2 : Hid (Own8 wr b M (fun x => if o ≤ x ∧ x < o + n then F x ^^^ g (x - o) else F x)) := ho.congr (fun x hx => by rw [show k = n from by omega])
      clear ho hs hb HO
      go_wp2
      exact bodyPost_end (results_none Try.results27 _ _ _) rfl ⟨rfl, HO2.out, HB.out⟩
end Go.Proofs.Ytbhlgcenfanicaa
