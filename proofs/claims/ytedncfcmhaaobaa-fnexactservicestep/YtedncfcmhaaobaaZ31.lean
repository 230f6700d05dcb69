/-
  Texts of the proof, joined: QuUq, QuTm.
-/
import Derived.Test.YtedncfcmhaaobaaZ29
import Derived.Test.YtedncfcmhaaobaaZ30
namespace Go.Proofs.Ytedncfcmhaaobaa
set_option linter.unusedVariables false
open Classical in
noncomputable def actG (s : Sv) (K r x : Int) : Sv × Int :=
  if K = 1 then
    (if 0 < s.m ∧ (s.W (s.m - 1)).en = -1 then (s, 9) else ({ s with m := s.m + 1, W := updE s.W s.m (woNew s.m x s.t) }, 0))
  else if K = 3 then ({ s with l := s.l + 1, Q := updE s.Q s.l (roNew s.t) }, 0)
  else if ¬ (1 ≤ K ∧ K ≤ 7) then (s, 3)
  else if ¬ (0 ≤ r ∧ r < (s.n : Int)) then (s, 4)
  else if K = 2 then
    (if s.m = 0 then (s, 5) else if (s.R r.toNat).mute = true then (s, 13) else
      ({ s with R := updE s.R r.toNat ((s.R r.toNat).take (s.W (s.m - 1)).mc (s.W (s.m - 1)).mt), W := updE s.W (s.m - 1) ((s.W (s.m - 1)).ack s.n s.t r.toNat) }, 0))
  else if K = 4 then
    (if ¬ (0 ≤ x ∧ x < (s.l : Int)) then (s, 4) else if (s.R r.toNat).mute = true then (s, 13) else
      if (s.Q x.toNat).en ≠ -1 ∨ hasE (s.Q x.toNat).ne (s.Q x.toNat).E r.toNat then (s, 9) else
      ({ s with Q := updE s.Q x.toNat ((s.Q x.toNat).hear s.n s.t r.toNat (s.R r.toNat).nc (s.R r.toNat).nt) }, 0))
  else if K = 5 then ({ s with R := updE s.R r.toNat (s.R r.toNat).save }, 0)
  else if K = 6 then
    (if 0 < s.m ∧ (s.W (s.m - 1)).en = -1 then ({ s with R := updE s.R r.toNat ((s.R r.toNat).boot (sB (x = 1))), W := updE s.W (s.m - 1) ((s.W (s.m - 1)).lose r.toNat) }, 0)
     else ({ s with R := updE s.R r.toNat ((s.R r.toNat).boot (sB (x = 1))) }, 0))
  else
    (if (s.R r.toNat).mute = false then (s, 9) else if ¬ (0 ≤ x ∧ x < (s.n : Int)) ∨ x = r.toNat then (s, 4) else
      if (s.R x.toNat).mute = true then (s, 13) else if hasE (s.R r.toNat).ne (s.R r.toNat).E x.toNat then (s, 9) else
      ({ s with R := updE s.R r.toNat ((s.R r.toNat).echo s.n x.toNat (s.R x.toNat).nc (s.R x.toNat).nt) }, 0))
noncomputable def actF (s : Sv) (a : Qa) : Sv × Int := actG s a.k a.r a.n
theorem nA {k n : Nat} (h : k < n) : ¬ ¬ (0 ≤ (k : Int) ∧ (k : Int) < (n : Int)) := by omega
theorem ActS.f {s s' : Sv} {a : Qa} {c : Int} (h : ActS s a s' c) : (s', c) = actF s a := by
  obtain ⟨ak, ar, an⟩ := a
  show (s', c) = actG s ak ar an
  unfold actG
  cases h with
  | twice1 h hm he => have h : ak = 1 := h; simp [h, hm, he]
  | begin h hm => have h : ak = 1 := h; rw [if_pos h, if_neg hm]
  | ask h => have h : ak = 3 := h; simp [h]
  | away h hr => 
    have h : ak = 2 ∨ ak = 4 ∨ ak = 5 ∨ ak = 6 ∨ ak = 7 := h
    rw [if_neg (by show ¬ ak = 1; omega), if_neg (by show ¬ ak = 3; omega), if_neg (by show ¬ ¬ (1 ≤ ak ∧ ak ≤ 7); omega), if_pos hr]
  | form h => 
    have h' : ¬ (1 ≤ ak ∧ ak ≤ 7) := h
    rw [if_neg (by show ¬ ak = 1; omega), if_neg (by show ¬ ak = 3; omega), if_pos h]
  | store0 k hk hr h hm =>
    have h : ak = 2 := h
    have hr : ar = k := hr
    subst h hr
    simp only [Int.toNat_natCast]
    rw [if_neg (by decide), if_neg (by decide), if_neg (by decide), if_neg (nA hk), if_pos trivial, if_pos hm]
  | store1 k hk hr h hm hu =>
    have h : ak = 2 := h
    have hr : ar = k := hr
    subst h hr
    simp only [Int.toNat_natCast]
    rw [if_neg (by decide), if_neg (by decide), if_neg (by decide), if_neg (nA hk), if_pos trivial, if_neg (by omega), if_pos hu]
  | store k hk hr h hm hu =>
    have h : ak = 2 := h
    have hr : ar = k := hr
    subst h hr
    have hu' : ¬ (s.R k).mute = true := by rw [hu]; decide
    simp only [Int.toNat_natCast]
    rw [if_neg (by decide), if_neg (by decide), if_neg (by decide), if_neg (nA hk), if_pos trivial, if_neg (by omega), if_neg hu']
  | reply0 k hk hr h hq =>
    have h : ak = 4 := h
    have hr : ar = k := hr
    subst h hr
    simp only [Int.toNat_natCast]
    rw [if_neg (by decide), if_neg (by decide), if_neg (by decide), if_neg (nA hk), if_neg (by decide), if_pos trivial, if_pos hq]
  | reply1 k q hk hr h hq hn hu =>
    have h : ak = 4 := h
    have hr : ar = k := hr
    have hn : an = q := hn
    subst h hr hn
    simp only [Int.toNat_natCast]
    rw [if_neg (by decide), if_neg (by decide), if_neg (by decide), if_neg (nA hk), if_neg (by decide), if_pos trivial, if_neg (nA hq), if_pos hu]
  | reply2 k q hk hr h hq hn hu hx =>
    have h : ak = 4 := h
    have hr : ar = k := hr
    have hn : an = q := hn
    subst h hr hn
    have hu' : ¬ (s.R k).mute = true := by rw [hu]; decide
    simp only [Int.toNat_natCast]
    rw [if_neg (by decide), if_neg (by decide), if_neg (by decide), if_neg (nA hk), if_neg (by decide), if_pos trivial, if_neg (nA hq), if_neg hu', if_pos hx]
  | reply k q hk hr h hq hn hu he hx =>
    have h : ak = 4 := h
    have hr : ar = k := hr
    have hn : an = q := hn
    subst h hr hn
    have hu' : ¬ (s.R k).mute = true := by rw [hu]; decide
    have hx' : ¬ ((s.Q q).en ≠ -1 ∨ hasE (s.Q q).ne (s.Q q).E k) := fun z => z.elim (fun u => u he) hx
    simp only [Int.toNat_natCast]
    rw [if_neg (by decide), if_neg (by decide), if_neg (by decide), if_neg (nA hk), if_neg (by decide), if_pos trivial, if_neg (nA hq), if_neg hu', if_neg hx']
  | save k hk hr h =>
    have h : ak = 5 := h
    have hr : ar = k := hr
    subst h hr
    simp only [Int.toNat_natCast]
    rw [if_neg (by decide), if_neg (by decide), if_neg (by decide), if_neg (nA hk), if_neg (by decide), if_neg (by decide), if_pos trivial]
  | restart k hk hr h hm =>
    have h : ak = 6 := h
    have hr : ar = k := hr
    subst h hr
    simp only [Int.toNat_natCast]
    rw [if_neg (by decide), if_neg (by decide), if_neg (by decide), if_neg (nA hk), if_neg (by decide), if_neg (by decide), if_neg (by decide), if_pos trivial, if_neg hm]
  | restartW k hk hr h hm he =>
    have h : ak = 6 := h
    have hr : ar = k := hr
    subst h hr
    simp only [Int.toNat_natCast]
    rw [if_neg (by decide), if_neg (by decide), if_neg (by decide), if_neg (nA hk), if_neg (by decide), if_neg (by decide), if_neg (by decide), if_pos trivial, if_pos ⟨hm, he⟩]
  | echo0 k hk hr h hu =>
    have h : ak = 7 := h
    have hr : ar = k := hr
    subst h hr
    simp only [Int.toNat_natCast]
    rw [if_neg (by decide), if_neg (by decide), if_neg (by decide), if_neg (nA hk), if_neg (by decide), if_neg (by decide), if_neg (by decide), if_neg (by decide), if_pos hu]
  | echo1 k hk hr h hu hf =>
    have h : ak = 7 := h
    have hr : ar = k := hr
    subst h hr
    have hu' : ¬ (s.R k).mute = false := by rw [hu]; decide
    simp only [Int.toNat_natCast]
    rw [if_neg (by decide), if_neg (by decide), if_neg (by decide), if_neg (nA hk), if_neg (by decide), if_neg (by decide), if_neg (by decide), if_neg (by decide), if_neg hu', if_pos hf]
  | echo2 k f hk hr h hu hf hn hne hv =>
    have h : ak = 7 := h
    have hr : ar = k := hr
    have hn : an = f := hn
    subst h hr hn
    have hu' : ¬ (s.R k).mute = false := by rw [hu]; decide
    simp only [Int.toNat_natCast]
    rw [if_neg (by decide), if_neg (by decide), if_neg (by decide), if_neg (nA hk), if_neg (by decide), if_neg (by decide), if_neg (by decide), if_neg (by decide), if_neg hu', if_neg (by show ¬ (¬ (0 ≤ (f : Int) ∧ (f : Int) < (s.n : Int)) ∨ (f : Int) = (k : Int)); omega), if_pos hv]
  | echo3 k f hk hr h hu hf hn hne hv hx =>
    have h : ak = 7 := h
    have hr : ar = k := hr
    have hn : an = f := hn
    subst h hr hn
    have hu' : ¬ (s.R k).mute = false := by rw [hu]; decide
    have hv' : ¬ (s.R f).mute = true := by rw [hv]; decide
    simp only [Int.toNat_natCast]
    rw [if_neg (by decide), if_neg (by decide), if_neg (by decide), if_neg (nA hk), if_neg (by decide), if_neg (by decide), if_neg (by decide), if_neg (by decide), if_neg hu', if_neg (by show ¬ (¬ (0 ≤ (f : Int) ∧ (f : Int) < (s.n : Int)) ∨ (f : Int) = (k : Int)); omega), if_neg hv', if_pos hx]
  | echo k f hk hr h hu hf hn hne hv hx =>
    have h : ak = 7 := h
    have hr : ar = k := hr
    have hn : an = f := hn
    subst h hr hn
    have hu' : ¬ (s.R k).mute = false := by rw [hu]; decide
    have hv' : ¬ (s.R f).mute = true := by rw [hv]; decide
    simp only [Int.toNat_natCast]
    rw [if_neg (by decide), if_neg (by decide), if_neg (by decide), if_neg (nA hk), if_neg (by decide), if_neg (by decide), if_neg (by decide), if_neg (by decide), if_neg hu', if_neg (by show ¬ (¬ (0 ≤ (f : Int) ∧ (f : Int) < (s.n : Int)) ∨ (f : Int) = (k : Int)); omega), if_neg hv', if_neg hx]
theorem StepS.uniq {s s1 s2 : Sv} {a : Qa} {c1 c2 : Int} (h : StepS s a s1 c1) (g : StepS s a s2 c2) : s1 = s2 ∧ c1 = c2 := by
  rcases h with ⟨t1, e1, d1⟩ | ⟨t1, e1⟩ <;> rcases g with ⟨t2, e2, d2⟩ | ⟨t2, e2⟩
  · exact ⟨e1.trans e2.symm, d1.trans d2.symm⟩
  · omega
  · omega
  · have := e1.f.trans e2.f.symm
    exact ⟨congrArg Prod.fst this, congrArg Prod.snd this⟩
end Go.Proofs.Ytedncfcmhaaobaa
namespace Go.Proofs.Ytedncfcmhaaobaa
open Go.ChangeShapes Go.WideShapes Go.ChangeAt Go.RowKit
set_option linter.unusedVariables false
def StIs (s : Sv) (a : Qa) (s' : Sv) (c : Int) : Prop := (s.Ok ∧ StepS s a s' c) ∨ (¬ s.Ok ∧ s' = sNew 0 ∧ c = 1)
theorem StIs.uniq {s s1 s2 : Sv} {a : Qa} {c1 c2 : Int} (h : StIs s a s1 c1) (g : StIs s a s2 c2) : s1 = s2 ∧ c1 = c2 := by
 rcases h with ⟨o, h⟩ | ⟨o, rfl, rfl⟩
 ·rcases g with ⟨_, g⟩ | ⟨n, _, _⟩
  ·exact h.uniq g
  ·exact absurd o n
 ·rcases g with ⟨n, _⟩ | ⟨_, rfl, rfl⟩
  ·exact absurd n o
  ·exact ⟨rfl, rfl⟩
theorem ok_mx {s : Sv} (ok : s.Ok) : s.max 201 := by
 have n7 := ok.1.1.2
 refine ⟨⟨by omega, fun i hi => ?_⟩, ⟨by have := ok.1.2.2.1; omega, fun i hi => ?_⟩, by have := ok.1.2.2.2; omega, fun i hi => ?_⟩
 ·have := ids_le (ok.2.2.1 i hi).2.1; omega
 ·have := ids_le (ok.2.1 i hi).2.2.2.1; omega
 ·have := ids_le (ok.2.2.2 i hi).2.1; omega
theorem mxUp {s : Sv} {x y : Nat} (h : s.max x) (hy : x ≤ y) : s.max y :=
 ⟨⟨Nat.le_trans h.1.1 hy, fun i hi => Nat.le_trans (h.1.2 i hi) hy⟩, ⟨Nat.le_trans h.2.1.1 hy, fun i hi => Nat.le_trans (h.2.1.2 i hi) hy⟩, Nat.le_trans h.2.2.1 hy, fun i hi => Nat.le_trans (h.2.2.2 i hi) hy⟩
theorem addE_sz (m : Nat) (E : Nat → Int) (x : Int) : (addE m E x).1 ≤ m + 1 := by
 unfold addE
 split
 ·exact Nat.le_succ _
 ·exact Nat.le_refl _
theorem subE_sz (m : Nat) (E : Nat → Int) (x : Int) : (subE m E x).1 ≤ m + 1 := by
 unfold subE
 split
 ·show m - 1 ≤ m + 1; omega
 ·exact Nat.le_succ _
theorem boot_sz (r : Rp) (b : Bool) (x : Nat) : (r.boot b).ne ≤ x := by
 unfold Rp.boot
 split <;> exact Nat.zero_le _
theorem echo_sz (r : Rp) (n : Nat) (f c t : Int) : (r.echo n f c t).ne ≤ r.ne + 1 := by
 unfold Rp.echo
 split
 ·exact Nat.zero_le _
 ·exact addE_sz _ _ _
theorem mxR {s : Sv} {x : Nat} (h : s.max x) {k : Nat} {r : Rp} (hr : r.ne ≤ x) : ({ s with R := updE s.R k r } : Sv).max x :=
 ⟨⟨h.1.1, fun i hi => by
  show (updE s.R k r i).ne ≤ x
  rw [updE_at]
  split
  ·exact hr
  ·exact h.1.2 i hi⟩, h.2.1, h.2.2⟩
theorem mxW {s : Sv} {x : Nat} (h : s.max x) {k : Nat} {r : Wo} (hr : r.ne ≤ x) : ({ s with W := updE s.W k r } : Sv).max x :=
 ⟨h.1, ⟨h.2.1.1, fun i hi => by
  show (updE s.W k r i).ne ≤ x
  rw [updE_at]
  split
  ·exact hr
  ·exact h.2.1.2 i hi⟩, h.2.2⟩
theorem mxQ {s : Sv} {x : Nat} (h : s.max x) {k : Nat} {r : Ro} (hr : r.ne ≤ x) : ({ s with Q := updE s.Q k r } : Sv).max x :=
 ⟨h.1, h.2.1, h.2.2.1, fun i hi => by
  show (updE s.Q k r i).ne ≤ x
  rw [updE_at]
  split
  ·exact hr
  ·exact h.2.2.2 i hi⟩
theorem ActS.mx {s s' : Sv} {a : Qa} {c : Int} (h : ActS s a s' c) {x : Nat} (hx : s.max x) : s'.max (x + 1) := by
 have up : s.max (x + 1) := mxUp hx (Nat.le_succ _)
 cases h
 case begin =>
  refine ⟨up.1, ⟨Nat.succ_le_succ hx.2.1.1, fun i hi => ?_⟩, up.2.2⟩
  show (updE s.W s.m (woNew s.m a.n s.t) i).ne ≤ x + 1
  rw [updE_at]
  split
  ·exact Nat.zero_le _
  ·have hi' : i < s.m + 1 := hi
   exact up.2.1.2 i (by omega)
 case ask =>
  refine ⟨up.1, up.2.1, Nat.succ_le_succ hx.2.2.1, fun i hi => ?_⟩
  show (updE s.Q s.l (roNew s.t) i).ne ≤ x + 1
  rw [updE_at]
  split
  ·exact Nat.zero_le _
  ·have hi' : i < s.l + 1 := hi
   exact up.2.2.2 i (by omega)
 case store k hk hr h hm hu =>
  have h1 := mxR (k := k) (r := (s.R k).take (s.W (s.m - 1)).mc (s.W (s.m - 1)).mt) up (up.1.2 k hk)
  exact mxW (k := s.m - 1) (r := (s.W (s.m - 1)).ack s.n s.t k) h1 (Nat.le_trans (addE_sz _ _ _) (Nat.succ_le_succ (hx.2.1.2 (s.m - 1) (by omega))))
 case reply k q hk hr h hq hn hu he hx' => exact mxQ (k := q) (r := (s.Q q).hear s.n s.t k (s.R k).nc (s.R k).nt) up (Nat.le_trans (addE_sz _ _ _) (Nat.succ_le_succ (hx.2.2.2 q hq)))
 case save k hk hr h => exact mxR (k := k) (r := (s.R k).save) up (up.1.2 k hk)
 case restart k hk hr h hm => exact mxR (k := k) (r := (s.R k).boot (sB (a.n = 1))) up (boot_sz _ _ _)
 case restartW k hk hr h hm he =>
  have h1 := mxR (k := k) (r := (s.R k).boot (sB (a.n = 1))) up (boot_sz _ _ _)
  exact mxW (k := s.m - 1) (r := (s.W (s.m - 1)).lose k) h1 (Nat.le_trans (subE_sz _ _ _) (Nat.succ_le_succ (hx.2.1.2 (s.m - 1) (by omega))))
 case echo k f hk hr h hu hf hn hne hv hx' => exact mxR (k := k) (r := (s.R k).echo s.n f (s.R f).nc (s.R f).nt) up (Nat.le_trans (echo_sz _ _ _ _ _) (Nat.succ_le_succ (hx.1.2 k hk)))
 all_goals exact up
theorem StepS.mx {s s' : Sv} {a : Qa} {c : Int} (h : StepS s a s' c) {x : Nat} (hx : s.max x) : s'.max (x + 1) := by
 rcases h with ⟨_, rfl, _⟩ | ⟨_, h⟩
 ·exact mxUp hx (Nat.le_succ _)
 ·exact h.mx (s := { s with t := s.t + 1 }) hx
theorem StIs.mx {s s' : Sv} {a : Qa} {c : Int} (h : StIs s a s' c) : s'.max 202 := by
 rcases h with ⟨o, h⟩ | ⟨_, rfl, _⟩
 ·exact h.mx (ok_mx o)
 ·exact ⟨⟨Nat.zero_le _, fun i hi => absurd hi (Nat.not_lt_zero i)⟩, ⟨Nat.zero_le _, fun i hi => absurd hi (Nat.not_lt_zero i)⟩, Nat.zero_le _, fun i hi => absurd hi (Nat.not_lt_zero i)⟩
def RetSs (B : Nat) (s : Sv) (a : Qa) (e : Ending) (w : World) : Prop := ∃ s' c vr vw vq VR VW VQ, e = .returned (.tuple #[.agg #[vr, .int .i64 s'.t, vw, vq], .int .i64 c]) ∧ StIs s a s' c ∧ SvO w B s' vr vw vq VR VW VQ ∧ SvD s' VR VW VQ
theorem svo_zero (w : World) (B : Nat) : SvO w B (sNew 0) (.slice none 0 0) (.slice none 0 0) (.slice none 0 0) (fun _ => .slice none 0 0) (fun _ => .slice none 0 0) (fun _ => .slice none 0 0) ∧ SvD (sNew 0) (fun _ => .slice none 0 0) (fun _ => .slice none 0 0) (fun _ => .slice none 0 0) :=
 ⟨⟨EO.nil _ _ _ _ _, EO.nil _ _ _ _ _, EO.nil _ _ _ _ _, fun i hi => absurd hi (Nat.not_lt_zero i), fun i hi => absurd hi (Nat.not_lt_zero i), fun i hi => absurd hi (Nat.not_lt_zero i)⟩, ⟨fun i j q hi => absurd hi (Nat.not_lt_zero i), fun i j q hi => absurd hi (Nat.not_lt_zero i), fun i j q hi => absurd hi (Nat.not_lt_zero i), fun i j q hi => absurd hi (Nat.not_lt_zero i), fun i j q hi => absurd hi (Nat.not_lt_zero i), fun i j q hi => absurd hi (Nat.not_lt_zero i)⟩⟩
theorem retSs_no {s : Sv} (h : ¬ s.Ok) (a : Qa) (B : Nat) (w : World) : RetSs B s a (.returned (.tuple #[.agg #[.slice none 0 0, .int .i64 0, .slice none 0 0, .slice none 0 0], .int .i64 1])) w :=
 ⟨sNew 0, 1, _, _, _, _, _, _, rfl, .inr ⟨h, rfl, rfl⟩, (svo_zero w B).1, (svo_zero w B).2⟩
end Go.Proofs.Ytedncfcmhaaobaa
