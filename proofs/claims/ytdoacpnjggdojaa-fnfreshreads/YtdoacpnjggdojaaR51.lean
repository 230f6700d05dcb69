/-
  Texts of the proof, joined: QuUq.
-/
import Derived.Test.YtdoacpnjggdojaaR38
namespace Go.Proofs.Ytdoacpnjggdojaa
set_option linter.unusedVariables false
open Classical in
noncomputable def actG (s : Sv) (K r x : Int) : Sv × Int :=
  if K = 1 then
    (if 0 < s.m ∧ (s.W (s.m - 1)).en = -1 then (s, 9) else ({ s with m := s.m + 1, W := updE s.W s.m (woNew s.m x s.t) }, 0))
  else if K = 3 then ({ s with l := s.l + 1, Q := updE s.Q s.l (roNew s.t) }, 0)
  else if ¬ (1 ≤ K ∧ K ≤ 7) then (s, 3)
  else if ¬ (0 ≤ r ∧ r < (s.n : Int)) then (s, 4)
  else if K = 2 then
    (if s.m = 0 then (s, 5) else if (s.R r.toNat).mute = true then (s, 13) else
      ({ s with R := updE s.R r.toNat ((s.R r.toNat).take (s.W (s.m - 1)).mc (s.W (s.m - 1)).mt), W := updE s.W (s.m - 1) ((s.W (s.m - 1)).ack s.n s.t r.toNat) }, 0))
  else if K = 4 then
    (if ¬ (0 ≤ x ∧ x < (s.l : Int)) then (s, 4) else if (s.R r.toNat).mute = true then (s, 13) else
      if (s.Q x.toNat).en ≠ -1 ∨ hasE (s.Q x.toNat).ne (s.Q x.toNat).E r.toNat then (s, 9) else
      ({ s with Q := updE s.Q x.toNat ((s.Q x.toNat).hear s.n s.t r.toNat (s.R r.toNat).nc (s.R r.toNat).nt) }, 0))
  else if K = 5 then ({ s with R := updE s.R r.toNat (s.R r.toNat).save }, 0)
  else if K = 6 then
    (if 0 < s.m ∧ (s.W (s.m - 1)).en = -1 then ({ s with R := updE s.R r.toNat ((s.R r.toNat).boot (sB (x = 1))), W := updE s.W (s.m - 1) ((s.W (s.m - 1)).lose r.toNat) }, 0)
     else ({ s with R := updE s.R r.toNat ((s.R r.toNat).boot (sB (x = 1))) }, 0))
  else
    (if (s.R r.toNat).mute = false then (s, 9) else if ¬ (0 ≤ x ∧ x < (s.n : Int)) ∨ x = r.toNat then (s, 4) else
      if (s.R x.toNat).mute = true then (s, 13) else if hasE (s.R r.toNat).ne (s.R r.toNat).E x.toNat then (s, 9) else
      ({ s with R := updE s.R r.toNat ((s.R r.toNat).echo s.n x.toNat (s.R x.toNat).nc (s.R x.toNat).nt) }, 0))
noncomputable def actF (s : Sv) (a : Qa) : Sv × Int := actG s a.k a.r a.n
theorem nA {k n : Nat} (h : k < n) : ¬ ¬ (0 ≤ (k : Int) ∧ (k : Int) < (n : Int)) := by omega
theorem ActS.f {s s' : Sv} {a : Qa} {c : Int} (h : ActS s a s' c) : (s', c) = actF s a := by
  obtain ⟨ak, ar, an⟩ := a
  show (s', c) = actG s ak ar an
  unfold actG
  cases h with
  | twice1 h hm he => have h : ak = 1 := h; simp [h, hm, he]
  | begin h hm => have h : ak = 1 := h; rw [if_pos h, if_neg hm]
  | ask h => have h : ak = 3 := h; simp [h]
  | away h hr => 
    have h : ak = 2 ∨ ak = 4 ∨ ak = 5 ∨ ak = 6 ∨ ak = 7 := h
    rw [if_neg (by show ¬ ak = 1; omega), if_neg (by show ¬ ak = 3; omega), if_neg (by show ¬ ¬ (1 ≤ ak ∧ ak ≤ 7); omega), if_pos hr]
  | form h => 
    have h' : ¬ (1 ≤ ak ∧ ak ≤ 7) := h
    rw [if_neg (by show ¬ ak = 1; omega), if_neg (by show ¬ ak = 3; omega), if_pos h]
  | store0 k hk hr h hm =>
    have h : ak = 2 := h
    have hr : ar = k := hr
    subst h hr
    simp only [Int.toNat_natCast]
    rw [if_neg (by decide), if_neg (by decide), if_neg (by decide), if_neg (nA hk), if_pos trivial, if_pos hm]
  | store1 k hk hr h hm hu =>
    have h : ak = 2 := h
    have hr : ar = k := hr
    subst h hr
    simp only [Int.toNat_natCast]
    rw [if_neg (by decide), if_neg (by decide), if_neg (by decide), if_neg (nA hk), if_pos trivial, if_neg (by omega), if_pos hu]
  | store k hk hr h hm hu =>
    have h : ak = 2 := h
    have hr : ar = k := hr
    subst h hr
    have hu' : ¬ (s.R k).mute = true := by rw [hu]; decide
    simp only [Int.toNat_natCast]
    rw [if_neg (by decide), if_neg (by decide), if_neg (by decide), if_neg (nA hk), if_pos trivial, if_neg (by omega), if_neg hu']
  | reply0 k hk hr h hq =>
    have h : ak = 4 := h
    have hr : ar = k := hr
    subst h hr
    simp only [Int.toNat_natCast]
    rw [if_neg (by decide), if_neg (by decide), if_neg (by decide), if_neg (nA hk), if_neg (by decide), if_pos trivial, if_pos hq]
  | reply1 k q hk hr h hq hn hu =>
    have h : ak = 4 := h
    have hr : ar = k := hr
    have hn : an = q := hn
    subst h hr hn
    simp only [Int.toNat_natCast]
    rw [if_neg (by decide), if_neg (by decide), if_neg (by decide), if_neg (nA hk), if_neg (by decide), if_pos trivial, if_neg (nA hq), if_pos hu]
  | reply2 k q hk hr h hq hn hu hx =>
    have h : ak = 4 := h
    have hr : ar = k := hr
    have hn : an = q := hn
    subst h hr hn
    have hu' : ¬ (s.R k).mute = true := by rw [hu]; decide
    simp only [Int.toNat_natCast]
    rw [if_neg (by decide), if_neg (by decide), if_neg (by decide), if_neg (nA hk), if_neg (by decide), if_pos trivial, if_neg (nA hq), if_neg hu', if_pos hx]
  | reply k q hk hr h hq hn hu he hx =>
    have h : ak = 4 := h
    have hr : ar = k := hr
    have hn : an = q := hn
    subst h hr hn
    have hu' : ¬ (s.R k).mute = true := by rw [hu]; decide
    have hx' : ¬ ((s.Q q).en ≠ -1 ∨ hasE (s.Q q).ne (s.Q q).E k) := fun z => z.elim (fun u => u he) hx
    simp only [Int.toNat_natCast]
    rw [if_neg (by decide), if_neg (by decide), if_neg (by decide), if_neg (nA hk), if_neg (by decide), if_pos trivial, if_neg (nA hq), if_neg hu', if_neg hx']
  | save k hk hr h =>
    have h : ak = 5 := h
    have hr : ar = k := hr
    subst h hr
    simp only [Int.toNat_natCast]
    rw [if_neg (by decide), if_neg (by decide), if_neg (by decide), if_neg (nA hk), if_neg (by decide), if_neg (by decide), if_pos trivial]
  | restart k hk hr h hm =>
    have h : ak = 6 := h
    have hr : ar = k := hr
    subst h hr
    simp only [Int.toNat_natCast]
    rw [if_neg (by decide), if_neg (by decide), if_neg (by decide), if_neg (nA hk), if_neg (by decide), if_neg (by decide), if_neg (by decide), if_pos trivial, if_neg hm]
  | restartW k hk hr h hm he =>
    have h : ak = 6 := h
    have hr : ar = k := hr
    subst h hr
    simp only [Int.toNat_natCast]
    rw [if_neg (by decide), if_neg (by decide), if_neg (by decide), if_neg (nA hk), if_neg (by decide), if_neg (by decide), if_neg (by decide), if_pos trivial, if_pos ⟨hm, he⟩]
  | echo0 k hk hr h hu =>
    have h : ak = 7 := h
    have hr : ar = k := hr
    subst h hr
    simp only [Int.toNat_natCast]
    rw [if_neg (by decide), if_neg (by decide), if_neg (by decide), if_neg (nA hk), if_neg (by decide), if_neg (by decide), if_neg (by decide), if_neg (by decide), if_pos hu]
  | echo1 k hk hr h hu hf =>
    have h : ak = 7 := h
    have hr : ar = k := hr
    subst h hr
    have hu' : ¬ (s.R k).mute = false := by rw [hu]; decide
    simp only [Int.toNat_natCast]
    rw [if_neg (by decide), if_neg (by decide), if_neg (by decide), if_neg (nA hk), if_neg (by decide), if_neg (by decide), if_neg (by decide), if_neg (by decide), if_neg hu', if_pos hf]
  | echo2 k f hk hr h hu hf hn hne hv =>
    have h : ak = 7 := h
    have hr : ar = k := hr
    have hn : an = f := hn
    subst h hr hn
    have hu' : ¬ (s.R k).mute = false := by rw [hu]; decide
    simp only [Int.toNat_natCast]
    rw [if_neg (by decide), if_neg (by decide), if_neg (by decide), if_neg (nA hk), if_neg (by decide), if_neg (by decide), if_neg (by decide), if_neg (by decide), if_neg hu', if_neg (by show ¬ (¬ (0 ≤ (f : Int) ∧ (f : Int) < (s.n : Int)) ∨ (f : Int) = (k : Int)); omega), if_pos hv]
  | echo3 k f hk hr h hu hf hn hne hv hx =>
    have h : ak = 7 := h
    have hr : ar = k := hr
    have hn : an = f := hn
    subst h hr hn
    have hu' : ¬ (s.R k).mute = false := by rw [hu]; decide
    have hv' : ¬ (s.R f).mute = true := by rw [hv]; decide
    simp only [Int.toNat_natCast]
    rw [if_neg (by decide), if_neg (by decide), if_neg (by decide), if_neg (nA hk), if_neg (by decide), if_neg (by decide), if_neg (by decide), if_neg (by decide), if_neg hu', if_neg (by show ¬ (¬ (0 ≤ (f : Int) ∧ (f : Int) < (s.n : Int)) ∨ (f : Int) = (k : Int)); omega), if_neg hv', if_pos hx]
  | echo k f hk hr h hu hf hn hne hv hx =>
    have h : ak = 7 := h
    have hr : ar = k := hr
    have hn : an = f := hn
    subst h hr hn
    have hu' : ¬ (s.R k).mute = false := by rw [hu]; decide
    have hv' : ¬ (s.R f).mute = true := by rw [hv]; decide
    simp only [Int.toNat_natCast]
    rw [if_neg (by decide), if_neg (by decide), if_neg (by decide), if_neg (nA hk), if_neg (by decide), if_neg (by decide), if_neg (by decide), if_neg (by decide), if_neg hu', if_neg (by show ¬ (¬ (0 ≤ (f : Int) ∧ (f : Int) < (s.n : Int)) ∨ (f : Int) = (k : Int)); omega), if_neg hv', if_neg hx]
theorem StepS.uniq {s s1 s2 : Sv} {a : Qa} {c1 c2 : Int} (h : StepS s a s1 c1) (g : StepS s a s2 c2) : s1 = s2 ∧ c1 = c2 := by
  rcases h with ⟨t1, e1, d1⟩ | ⟨t1, e1⟩ <;> rcases g with ⟨t2, e2, d2⟩ | ⟨t2, e2⟩
  · exact ⟨e1.trans e2.symm, d1.trans d2.symm⟩
  · omega
  · omega
  · have := e1.f.trans e2.f.symm
    exact ⟨congrArg Prod.fst this, congrArg Prod.snd this⟩
theorem RunQ.uniq {A A' : Nat → Qa} {s0 : Sv} {C D : Nat → Int} : ∀ {q : Nat} {s s' : Sv}, RunQ A s0 C q s → RunQ A' s0 D q s' → (∀ i, i < q → A i = A' i) → s = s' ∧ ∀ i, i < q → C i = D i
  | 0, s, s', h, g, _ => by unfold RunQ at h g; exact ⟨h.trans g.symm, fun i hi => absurd hi (Nat.not_lt_zero i)⟩
  | q + 1, s, s', ⟨s1, h1, h2⟩, ⟨s2, g1, g2⟩, e => by
    obtain ⟨rfl, u⟩ := RunQ.uniq h1 g1 (fun i hi => e i (by omega))
    rw [← e q (by omega)] at g2
    obtain ⟨r, v⟩ := h2.uniq g2
    exact ⟨r, fun i hi => by
      rcases (show i < q ∨ i = q by omega) with z | rfl
      · exact u i z
      · exact v⟩
end Go.Proofs.Ytdoacpnjggdojaa
