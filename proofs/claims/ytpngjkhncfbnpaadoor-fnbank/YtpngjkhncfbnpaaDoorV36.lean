/-
  Texts of the proof, joined: InsE0.
-/
import Derived.Test.YtpngjkhncfbnpaaDoorV35
namespace Go.Proofs.YtpngjkhncfbnpaaDoor
open Go.ChangeShapes Go.WideShapes Go.ChangeAt Go.RowKit
set_option linter.unusedVariables false
def InsRg (w : World) (B : Nat) (v : Value) (n : Nat) (R : Nat → Rg) (e : Ending) (w' : World) : Prop := (∃ v', e = .returned v' ∧ EO w' B 54 3 v' (n + 1) (rgF R) ∧ (v'.ownBlock = v.ownBlock ∨ v'.ownBlock = some w.heap.size)) ∧ w.grownBy w' v.ownBlock
set_option maxRecDepth 100000 in
set_option maxHeartbeats 1000000 in
theorem insRg_end (w : World) (B : Nat) (a : Option Addr) (n c q : Nat) (R : Nat → Rg) (x : Rg) (hB : B ≤ w.heap.size) (hn : n ≤ 100000) (h : EO w B 54 3 (.slice a n c) n (rgF R)) (hx : ∀ j, j < 3 → w.cell? ⟨q, 0 + j, none⟩ = some (rgV x j)) :
    Calls Tryd.prog 116 #[.slice a n c, .int .i64 n, .slice (some ⟨q, 0, none⟩) 1 1] w fun e w' => InsRg w B (.slice a n c) n (updE R n x) e w' := by
  obtain ⟨v', w', hr, ho, hg, hloc⟩ := appRg w B _ n q R x hB hn h hx
  have hnc : n ≤ c := by
    obtain ⟨hl, ⟨h1, h2⟩ | ⟨g, cap, cur, hv, hB, hh, hn, _⟩⟩ := h
    · omega
    · cases hv; exact hn
  have HP : Hid (InsRg w B (.slice a n c) n (updE R n x) (.returned v') w') := ⟨⟨v', rfl, ho, hloc⟩, hg⟩
  clear h hx ho hg hloc
  by_cases hcn : c = n
  · subst hcn
    go_enter Tryd.func116, Tryd.ntmps116
    go_wp2_with (at_builtin; refine Lib.wpList_append_run _ rfl (.tmp 23) (.tmp 24) 43 43 rfl (.slice a c c) (.slice (some ⟨q, 0, none⟩) 1 1) rfl rfl _ _ (hr _) ?_)
    go_ret
    exact HP.out
  · have hlt : n < c := by omega
    have hz : ¬ c - n = 0 := by omega
    go_enter Tryd.func116, Tryd.ntmps116
    go_wp2_with (at_builtin; refine Lib.wpList_append_run _ rfl (.tmp 23) (.tmp 24) 43 43 rfl (.slice a n c) (.slice (some ⟨q, 0, none⟩) 1 1) rfl rfl _ _ (hr _) ?_)
    go_ret
    exact HP.out
def InsSe (w : World) (B : Nat) (v : Value) (n : Nat) (R : Nat → Se) (e : Ending) (w' : World) : Prop := (∃ v', e = .returned v' ∧ EO w' B 100 4 v' (n + 1) (seF R) ∧ (v'.ownBlock = v.ownBlock ∨ v'.ownBlock = some w.heap.size)) ∧ w.grownBy w' v.ownBlock
set_option maxRecDepth 100000 in
set_option maxHeartbeats 1000000 in
theorem insSe_end (w : World) (B : Nat) (a : Option Addr) (n c q : Nat) (R : Nat → Se) (x : Se) (hB : B ≤ w.heap.size) (hn : n ≤ 100000) (h : EO w B 100 4 (.slice a n c) n (seF R)) (hx : ∀ j, j < 4 → w.cell? ⟨q, 0 + j, none⟩ = some (seV x j)) :
    Calls Tryd.prog 112 #[.slice a n c, .int .i64 n, .slice (some ⟨q, 0, none⟩) 1 1] w fun e w' => InsSe w B (.slice a n c) n (updE R n x) e w' := by
  obtain ⟨v', w', hr, ho, hg, hloc⟩ := appSe w B _ n q R x hB hn h hx
  have hnc : n ≤ c := by
    obtain ⟨hl, ⟨h1, h2⟩ | ⟨g, cap, cur, hv, hB, hh, hn, _⟩⟩ := h
    · omega
    · cases hv; exact hn
  have HP : Hid (InsSe w B (.slice a n c) n (updE R n x) (.returned v') w') := ⟨⟨v', rfl, ho, hloc⟩, hg⟩
  clear h hx ho hg hloc
  by_cases hcn : c = n
  · subst hcn
    go_enter Tryd.func112, Tryd.ntmps112
    go_wp2_with (at_builtin; refine Lib.wpList_append_run _ rfl (.tmp 23) (.tmp 24) 44 44 rfl (.slice a c c) (.slice (some ⟨q, 0, none⟩) 1 1) rfl rfl _ _ (hr _) ?_)
    go_ret
    exact HP.out
  · have hlt : n < c := by omega
    have hz : ¬ c - n = 0 := by omega
    go_enter Tryd.func112, Tryd.ntmps112
    go_wp2_with (at_builtin; refine Lib.wpList_append_run _ rfl (.tmp 23) (.tmp 24) 44 44 rfl (.slice a n c) (.slice (some ⟨q, 0, none⟩) 1 1) rfl rfl _ _ (hr _) ?_)
    go_ret
    exact HP.out
end Go.Proofs.YtpngjkhncfbnpaaDoor
