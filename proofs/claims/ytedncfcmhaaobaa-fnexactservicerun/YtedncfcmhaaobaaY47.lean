/-
  Texts of the proof, joined: QuUq, QuSr, QuTm.
-/
import Derived.Test.YtedncfcmhaaobaaY33
import Derived.Test.YtedncfcmhaaobaaY43
import Derived.Test.YtedncfcmhaaobaaY46
import Derived.Deep.DeepCutAuto
import Derived.Test.YtedncfcmhaaobaaY34
import Derived.Test.YtedncfcmhaaobaaTkH
namespace Go.Proofs.Ytedncfcmhaaobaa
set_option linter.unusedVariables false
open Classical in
noncomputable def actG (s : Sv) (K r x : Int) : Sv × Int :=
  if K = 1 then
    (if 0 < s.m ∧ (s.W (s.m - 1)).en = -1 then (s, 9) else ({ s with m := s.m + 1, W := updE s.W s.m (woNew s.m x s.t) }, 0))
  else if K = 3 then ({ s with l := s.l + 1, Q := updE s.Q s.l (roNew s.t) }, 0)
  else if ¬ (1 ≤ K ∧ K ≤ 7) then (s, 3)
  else if ¬ (0 ≤ r ∧ r < (s.n : Int)) then (s, 4)
  else if K = 2 then
    (if s.m = 0 then (s, 5) else if (s.R r.toNat).mute = true then (s, 13) else
      ({ s with R := updE s.R r.toNat ((s.R r.toNat).take (s.W (s.m - 1)).mc (s.W (s.m - 1)).mt), W := updE s.W (s.m - 1) ((s.W (s.m - 1)).ack s.n s.t r.toNat) }, 0))
  else if K = 4 then
    (if ¬ (0 ≤ x ∧ x < (s.l : Int)) then (s, 4) else if (s.R r.toNat).mute = true then (s, 13) else
      if (s.Q x.toNat).en ≠ -1 ∨ hasE (s.Q x.toNat).ne (s.Q x.toNat).E r.toNat then (s, 9) else
      ({ s with Q := updE s.Q x.toNat ((s.Q x.toNat).hear s.n s.t r.toNat (s.R r.toNat).nc (s.R r.toNat).nt) }, 0))
  else if K = 5 then ({ s with R := updE s.R r.toNat (s.R r.toNat).save }, 0)
  else if K = 6 then
    (if 0 < s.m ∧ (s.W (s.m - 1)).en = -1 then ({ s with R := updE s.R r.toNat ((s.R r.toNat).boot (sB (x = 1))), W := updE s.W (s.m - 1) ((s.W (s.m - 1)).lose r.toNat) }, 0)
     else ({ s with R := updE s.R r.toNat ((s.R r.toNat).boot (sB (x = 1))) }, 0))
  else
    (if (s.R r.toNat).mute = false then (s, 9) else if ¬ (0 ≤ x ∧ x < (s.n : Int)) ∨ x = r.toNat then (s, 4) else
      if (s.R x.toNat).mute = true then (s, 13) else if hasE (s.R r.toNat).ne (s.R r.toNat).E x.toNat then (s, 9) else
      ({ s with R := updE s.R r.toNat ((s.R r.toNat).echo s.n x.toNat (s.R x.toNat).nc (s.R x.toNat).nt) }, 0))
noncomputable def actF (s : Sv) (a : Qa) : Sv × Int := actG s a.k a.r a.n
theorem nA {k n : Nat} (h : k < n) : ¬ ¬ (0 ≤ (k : Int) ∧ (k : Int) < (n : Int)) := by omega
theorem ActS.f {s s' : Sv} {a : Qa} {c : Int} (h : ActS s a s' c) : (s', c) = actF s a := by
  obtain ⟨ak, ar, an⟩ := a
  show (s', c) = actG s ak ar an
  unfold actG
  cases h with
  | twice1 h hm he => have h : ak = 1 := h; simp [h, hm, he]
  | begin h hm => have h : ak = 1 := h; rw [if_pos h, if_neg hm]
  | ask h => have h : ak = 3 := h; simp [h]
  | away h hr => 
    have h : ak = 2 ∨ ak = 4 ∨ ak = 5 ∨ ak = 6 ∨ ak = 7 := h
    rw [if_neg (by show ¬ ak = 1; omega), if_neg (by show ¬ ak = 3; omega), if_neg (by show ¬ ¬ (1 ≤ ak ∧ ak ≤ 7); omega), if_pos hr]
  | form h => 
    have h' : ¬ (1 ≤ ak ∧ ak ≤ 7) := h
    rw [if_neg (by show ¬ ak = 1; omega), if_neg (by show ¬ ak = 3; omega), if_pos h]
  | store0 k hk hr h hm =>
    have h : ak = 2 := h
    have hr : ar = k := hr
    subst h hr
    simp only [Int.toNat_natCast]
    rw [if_neg (by decide), if_neg (by decide), if_neg (by decide), if_neg (nA hk), if_pos trivial, if_pos hm]
  | store1 k hk hr h hm hu =>
    have h : ak = 2 := h
    have hr : ar = k := hr
    subst h hr
    simp only [Int.toNat_natCast]
    rw [if_neg (by decide), if_neg (by decide), if_neg (by decide), if_neg (nA hk), if_pos trivial, if_neg (by omega), if_pos hu]
  | store k hk hr h hm hu =>
    have h : ak = 2 := h
    have hr : ar = k := hr
    subst h hr
    have hu' : ¬ (s.R k).mute = true := by rw [hu]; decide
    simp only [Int.toNat_natCast]
    rw [if_neg (by decide), if_neg (by decide), if_neg (by decide), if_neg (nA hk), if_pos trivial, if_neg (by omega), if_neg hu']
  | reply0 k hk hr h hq =>
    have h : ak = 4 := h
    have hr : ar = k := hr
    subst h hr
    simp only [Int.toNat_natCast]
    rw [if_neg (by decide), if_neg (by decide), if_neg (by decide), if_neg (nA hk), if_neg (by decide), if_pos trivial, if_pos hq]
  | reply1 k q hk hr h hq hn hu =>
    have h : ak = 4 := h
    have hr : ar = k := hr
    have hn : an = q := hn
    subst h hr hn
    simp only [Int.toNat_natCast]
    rw [if_neg (by decide), if_neg (by decide), if_neg (by decide), if_neg (nA hk), if_neg (by decide), if_pos trivial, if_neg (nA hq), if_pos hu]
  | reply2 k q hk hr h hq hn hu hx =>
    have h : ak = 4 := h
    have hr : ar = k := hr
    have hn : an = q := hn
    subst h hr hn
    have hu' : ¬ (s.R k).mute = true := by rw [hu]; decide
    simp only [Int.toNat_natCast]
    rw [if_neg (by decide), if_neg (by decide), if_neg (by decide), if_neg (nA hk), if_neg (by decide), if_pos trivial, if_neg (nA hq), if_neg hu', if_pos hx]
  | reply k q hk hr h hq hn hu he hx =>
    have h : ak = 4 := h
    have hr : ar = k := hr
    have hn : an = q := hn
    subst h hr hn
    have hu' : ¬ (s.R k).mute = true := by rw [hu]; decide
    have hx' : ¬ ((s.Q q).en ≠ -1 ∨ hasE (s.Q q).ne (s.Q q).E k) := fun z => z.elim (fun u => u he) hx
    simp only [Int.toNat_natCast]
    rw [if_neg (by decide), if_neg (by decide), if_neg (by decide), if_neg (nA hk), if_neg (by decide), if_pos trivial, if_neg (nA hq), if_neg hu', if_neg hx']
  | save k hk hr h =>
    have h : ak = 5 := h
    have hr : ar = k := hr
    subst h hr
    simp only [Int.toNat_natCast]
    rw [if_neg (by decide), if_neg (by decide), if_neg (by decide), if_neg (nA hk), if_neg (by decide), if_neg (by decide), if_pos trivial]
  | restart k hk hr h hm =>
    have h : ak = 6 := h
    have hr : ar = k := hr
    subst h hr
    simp only [Int.toNat_natCast]
    rw [if_neg (by decide), if_neg (by decide), if_neg (by decide), if_neg (nA hk), if_neg (by decide), if_neg (by decide), if_neg (by decide), if_pos trivial, if_neg hm]
  | restartW k hk hr h hm he =>
    have h : ak = 6 := h
    have hr : ar = k := hr
    subst h hr
    simp only [Int.toNat_natCast]
    rw [if_neg (by decide), if_neg (by decide), if_neg (by decide), if_neg (nA hk), if_neg (by decide), if_neg (by decide), if_neg (by decide), if_pos trivial, if_pos ⟨hm, he⟩]
  | echo0 k hk hr h hu =>
    have h : ak = 7 := h
    have hr : ar = k := hr
    subst h hr
    simp only [Int.toNat_natCast]
    rw [if_neg (by decide), if_neg (by decide), if_neg (by decide), if_neg (nA hk), if_neg (by decide), if_neg (by decide), if_neg (by decide), if_neg (by decide), if_pos hu]
  | echo1 k hk hr h hu hf =>
    have h : ak = 7 := h
    have hr : ar = k := hr
    subst h hr
    have hu' : ¬ (s.R k).mute = false := by rw [hu]; decide
    simp only [Int.toNat_natCast]
    rw [if_neg (by decide), if_neg (by decide), if_neg (by decide), if_neg (nA hk), if_neg (by decide), if_neg (by decide), if_neg (by decide), if_neg (by decide), if_neg hu', if_pos hf]
  | echo2 k f hk hr h hu hf hn hne hv =>
    have h : ak = 7 := h
    have hr : ar = k := hr
    have hn : an = f := hn
    subst h hr hn
    have hu' : ¬ (s.R k).mute = false := by rw [hu]; decide
    simp only [Int.toNat_natCast]
    rw [if_neg (by decide), if_neg (by decide), if_neg (by decide), if_neg (nA hk), if_neg (by decide), if_neg (by decide), if_neg (by decide), if_neg (by decide), if_neg hu', if_neg (by show ¬ (¬ (0 ≤ (f : Int) ∧ (f : Int) < (s.n : Int)) ∨ (f : Int) = (k : Int)); omega), if_pos hv]
  | echo3 k f hk hr h hu hf hn hne hv hx =>
    have h : ak = 7 := h
    have hr : ar = k := hr
    have hn : an = f := hn
    subst h hr hn
    have hu' : ¬ (s.R k).mute = false := by rw [hu]; decide
    have hv' : ¬ (s.R f).mute = true := by rw [hv]; decide
    simp only [Int.toNat_natCast]
    rw [if_neg (by decide), if_neg (by decide), if_neg (by decide), if_neg (nA hk), if_neg (by decide), if_neg (by decide), if_neg (by decide), if_neg (by decide), if_neg hu', if_neg (by show ¬ (¬ (0 ≤ (f : Int) ∧ (f : Int) < (s.n : Int)) ∨ (f : Int) = (k : Int)); omega), if_neg hv', if_pos hx]
  | echo k f hk hr h hu hf hn hne hv hx =>
    have h : ak = 7 := h
    have hr : ar = k := hr
    have hn : an = f := hn
    subst h hr hn
    have hu' : ¬ (s.R k).mute = false := by rw [hu]; decide
    have hv' : ¬ (s.R f).mute = true := by rw [hv]; decide
    simp only [Int.toNat_natCast]
    rw [if_neg (by decide), if_neg (by decide), if_neg (by decide), if_neg (nA hk), if_neg (by decide), if_neg (by decide), if_neg (by decide), if_neg (by decide), if_neg hu', if_neg (by show ¬ (¬ (0 ≤ (f : Int) ∧ (f : Int) < (s.n : Int)) ∨ (f : Int) = (k : Int)); omega), if_neg hv', if_neg hx]
theorem StepS.uniq {s s1 s2 : Sv} {a : Qa} {c1 c2 : Int} (h : StepS s a s1 c1) (g : StepS s a s2 c2) : s1 = s2 ∧ c1 = c2 := by
  rcases h with ⟨t1, e1, d1⟩ | ⟨t1, e1⟩ <;> rcases g with ⟨t2, e2, d2⟩ | ⟨t2, e2⟩
  · exact ⟨e1.trans e2.symm, d1.trans d2.symm⟩
  · omega
  · omega
  · have := e1.f.trans e2.f.symm
    exact ⟨congrArg Prod.fst this, congrArg Prod.snd this⟩
theorem RunQ.uniq {A A' : Nat → Qa} {s0 : Sv} {C D : Nat → Int} : ∀ {q : Nat} {s s' : Sv}, RunQ A s0 C q s → RunQ A' s0 D q s' → (∀ i, i < q → A i = A' i) → s = s' ∧ ∀ i, i < q → C i = D i
  | 0, s, s', h, g, _ => by unfold RunQ at h g; exact ⟨h.trans g.symm, fun i hi => absurd hi (Nat.not_lt_zero i)⟩
  | q + 1, s, s', ⟨s1, h1, h2⟩, ⟨s2, g1, g2⟩, e => by
    obtain ⟨rfl, u⟩ := RunQ.uniq h1 g1 (fun i hi => e i (by omega))
    rw [← e q (by omega)] at g2
    obtain ⟨r, v⟩ := h2.uniq g2
    exact ⟨r, fun i hi => by
      rcases (show i < q ∨ i = q by omega) with z | rfl
      · exact u i z
      · exact v⟩
end Go.Proofs.Ytedncfcmhaaobaa
namespace Go.Proofs.Ytedncfcmhaaobaa
open Go.ChangeShapes Go.WideShapes Go.ChangeAt Go.RowKit
set_option linter.unusedVariables false
def SvK (N : Nat → Prop) (w : World) (s : Sv) (p : Sa) : Prop := ∀ u : World, (∀ g, N g → g < w.heap.size → u.heap[g]? = w.heap[g]?) → SvV u s p
theorem SvK.step {N N' : Nat → Prop} {w w' : World} {s : Sv} {p : Sa} (h : SvK N w s p) (hs : w.heap.size ≤ w'.heap.size) (e : ∀ g, g < w.heap.size → N g → N' g ∧ w'.heap[g]? = w.heap[g]?) : SvK N' w' s p :=
 fun u k => h u (fun g hN hg => (k g (e g hg hN).1 (Nat.lt_of_lt_of_le hg hs)).trans (e g hg hN).2)
theorem SvK.below {N : Nat → Prop} {w w' : World} {s : Sv} {p : Sa} (h : SvK N w s p) (hb : Below w.heap.size w w') : SvK N w' s p := h.step hb.size (fun g hg hN => ⟨hN, hb.block g hg⟩)
theorem SvK.v {N : Nat → Prop} {w : World} {s : Sv} {p : Sa} (h : SvK N w s p) : SvV w s p := h w (fun _ _ _ => rfl)
theorem sv_new (w : World) (g n c : Nat) (V : Nat → Value) (aw ar : Option Addr) (N : Nat → Prop) (hN : N g) (hl : g < w.heap.size) (hr : RowE w 8 (some ⟨g, 0, none⟩) g n (rpF (fun _ => rpZ) V)) (hV : ∀ i, i < n → ∃ a, V i = .slice a 0 0) :
  SvK N w (sNew n) ⟨some ⟨g, 0, none⟩, aw, ar, fun i => slA2 (V i), fun _ => none, fun _ => none, fun i => slX2 (V i), fun _ => 0, fun _ => 0, c, 0, 0⟩ ∧ SzP (sNew n) ⟨some ⟨g, 0, none⟩, aw, ar, fun i => slA2 (V i), fun _ => none, fun _ => none, fun i => slX2 (V i), fun _ => 0, fun _ => 0, c, 0, 0⟩ := by
 have fe : ∀ i, i < n → V i = .slice (slA2 (V i)) 0 (slX2 (V i)) := fun i hi => by
  obtain ⟨a, e⟩ := hV i hi
  rw [e]
  rfl
 refine ⟨fun u k => ⟨⟨(hr.ofBlock (fun _ => k g hN hl)).els.congr (fun i hi j hj => ?_), fun i hi j hj => absurd hj (Nat.not_lt_zero j)⟩, ⟨fun i hi => absurd hi (Nat.not_lt_zero i), fun i hi => absurd hi (Nat.not_lt_zero i)⟩, fun i hi => absurd hi (Nat.not_lt_zero i), fun i hi => absurd hi (Nat.not_lt_zero i)⟩, fun i hi e => ?_, fun i hi => absurd hi (Nat.not_lt_zero i), fun i hi => absurd hi (Nat.not_lt_zero i)⟩
 ·unfold rpF
  exact congrArg (fun v => rpV _ v j) (fe i hi)
 ·obtain ⟨a, e'⟩ := hV i hi
  show slX2 (V i) = 0
  rw [e']
  rfl
set_option maxRecDepth 100000 in
set_option maxHeartbeats 8000000 in
theorem specRun_q (n : Nat) (aa : Option Addr) (m ac : Nat) (A : Nat → Qa) (hn : 1 ≤ n ∧ n ≤ 7) (hm : m ≤ 200) (w : World) (h : Els w 3 aa m (quF A)) :
  Calls Try.prog 18 #[.int .i64 (n : Int), .slice aa m ac] w fun e w' => RetRn w.heap.size n m A e w' ∧ Below w.heap.size w w' := by
 have NS : Hid (∀ w : World, Calls Try.prog 49 #[.int .i64 (n : Int)] w fun e w' => RetNs n w.heap.size e w' ∧ Below w.heap.size w w') := fun w => specNs_yes n hn w
 have m1 : ¬ (4096 : Int) < (m : Int) := by omega
 have m2 : ¬ (200 : Int) < (m : Int) := by omega
 have HM : Hid (m ≤ 200) := hm
 have HN : Hid (1 ≤ n ∧ n ≤ 7) := hn
 have R0 : Hid (Box4 (w.alloc (.cells #[.slice none 0 0, .int .i64 0, .slice none 0 0, .slice none 0 0] 28)) w.heap.size 28 (.slice none 0 0) (.int .i64 0) (.slice none 0 0) (.slice none 0 0)) := Box4.madeAt rfl _ _ _ _ _
 have B0 : Hid (Below w.heap.size w (w.alloc (.cells #[.slice none 0 0, .int .i64 0, .slice none 0 0, .slice none 0 0] 28))) := (Below.refl _ _).alloc (Nat.le_refl _) _
 have HA : Hid (Els w 3 aa m (quF A)) := h
 clear h hn hm
 go_enter Try.func18, Try.ntmps18
 go_wp2_with fail
 generalize (w.alloc (.cells #[.slice none 0 0, .int .i64 0, .slice none 0 0, .slice none 0 0] 28)) = v at *
 refine (NS.out _).mono ?_
 rintro e v1 ⟨⟨g, c, V, vw, vr, rfl, hg0, hg1, hrow, hV, ⟨aw, rfl⟩, ⟨ar, rfl⟩⟩, hb⟩
 have b2 : Below v1.heap.size v1 (v1.alloc (.cells #[.slice (some ⟨g, 0, none⟩) n c, .int .i64 0, .slice aw 0 0, .slice ar 0 0] 28)) := (Below.refl _ _).alloc (Nat.le_refl _) _
 have b3 : Below (v1.alloc (.cells #[.slice (some ⟨g, 0, none⟩) n c, .int .i64 0, .slice aw 0 0, .slice ar 0 0] 28)).heap.size (v1.alloc (.cells #[.slice (some ⟨g, 0, none⟩) n c, .int .i64 0, .slice aw 0 0, .slice ar 0 0] 28)) ((v1.alloc (.cells #[.slice (some ⟨g, 0, none⟩) n c, .int .i64 0, .slice aw 0 0, .slice ar 0 0] 28)).alloc (.cells #[] 3)) := (Below.refl _ _).alloc (Nat.le_refl _) _
 have b4 : Below v1.heap.size v1 ((v1.alloc (.cells #[.slice (some ⟨g, 0, none⟩) n c, .int .i64 0, .slice aw 0 0, .slice ar 0 0] 28)).alloc (.cells #[] 3)) := b2.trans (b3.mono b2.size)
 have z2 : (v1.alloc (.cells #[.slice (some ⟨g, 0, none⟩) n c, .int .i64 0, .slice aw 0 0, .slice ar 0 0] 28)).heap.size = v1.heap.size + 1 := by simp
 obtain ⟨ob, hob⟩ : ∃ x, x = v1.heap.size := ⟨_, rfl⟩
 have S3 := sv_new ((v1.alloc (.cells #[.slice (some ⟨g, 0, none⟩) n c, .int .i64 0, .slice aw 0 0, .slice ar 0 0] 28)).alloc (.cells #[] 3)) g n c V aw ar (fun x => NC (.slice (some ⟨ob + 1, 0, none⟩) 0 0) x ∧ x ≠ ob) ⟨fun e => by have e' : ob + 1 = g := Option.some.inj e; omega, by omega⟩ (Nat.lt_of_lt_of_le hg1 b4.size) (hrow.ofBlock (fun _ => b4.block g hg1)) hV
 have SK3 : Hid (SvK (fun x => NC (.slice (some ⟨ob + 1, 0, none⟩) 0 0) x ∧ x ≠ ob) ((v1.alloc (.cells #[.slice (some ⟨g, 0, none⟩) n c, .int .i64 0, .slice aw 0 0, .slice ar 0 0] 28)).alloc (.cells #[] 3)) (sNew n) ⟨some ⟨g, 0, none⟩, aw, ar, fun i => slA2 (V i), fun _ => none, fun _ => none, fun i => slX2 (V i), fun _ => 0, fun _ => 0, c, 0, 0⟩) := S3.1
 have SZ3 : Hid (SzP (sNew n) ⟨some ⟨g, 0, none⟩, aw, ar, fun i => slA2 (V i), fun _ => none, fun _ => none, fun i => slX2 (V i), fun _ => 0, fun _ => 0, c, 0, 0⟩) := S3.2
 have X3 : Hid (Box4 ((v1.alloc (.cells #[.slice (some ⟨g, 0, none⟩) n c, .int .i64 0, .slice aw 0 0, .slice ar 0 0] 28)).alloc (.cells #[] 3)) ob 28 (.slice (some ⟨g, 0, none⟩) n c) (.int .i64 0) (.slice aw 0 0) (.slice ar 0 0)) := (Box4.madeAt hob.symm _ _ _ _ _).alloc _
 have WO : Hid (w.heap.size < ob) := by have := hb.size; have := B0.out.size; have := R0.out.lt; show w.heap.size < ob; omega
 have I3 : Hid (IE ((v1.alloc (.cells #[.slice (some ⟨g, 0, none⟩) n c, .int .i64 0, .slice aw 0 0, .slice ar 0 0] 28)).alloc (.cells #[] 3)) w.heap.size (.slice (some ⟨ob + 1, 0, none⟩) 0 0) 0 (fun _ => 0)) := by
  have := IE.lit (v1.alloc (.cells #[.slice (some ⟨g, 0, none⟩) n c, .int .i64 0, .slice aw 0 0, .slice ar 0 0] 28)) w.heap.size (Nat.le_trans (Nat.le_of_lt WO.out) (by rw [z2]; omega)) (fun _ => 0)
  rw [z2, ← hob] at this
  exact this
 have R3 : Hid (Box4 ((v1.alloc (.cells #[.slice (some ⟨g, 0, none⟩) n c, .int .i64 0, .slice aw 0 0, .slice ar 0 0] 28)).alloc (.cells #[] 3)) w.heap.size 28 (.slice none 0 0) (.int .i64 0) (.slice none 0 0) (.slice none 0 0)) := R0.out.below (hb.trans (b4.mono hb.size))
 have B3 : Hid (Below w.heap.size w ((v1.alloc (.cells #[.slice (some ⟨g, 0, none⟩) n c, .int .i64 0, .slice aw 0 0, .slice ar 0 0] 28)).alloc (.cells #[] 3))) := B0.out.trans ((hb.trans (b4.mono hb.size)).mono B0.out.size)
 clear S3 hrow hV hg0 hg1 b2 b3 b4 NS hb B0 R0
 go_wp2
 rw [← hob]
 generalize ((v1.alloc (.cells #[.slice (some ⟨g, 0, none⟩) n c, .int .i64 0, .slice aw 0 0, .slice ar 0 0] 28)).alloc (.cells #[] 3)) = v3 at *
 clear z2 hob
 go_loopw [9, 10] (fun cs i wr => ∃ (q : Nat) (s : Sv) (p : Sa) (C : Nat → Int) (ca : Option Addr) (cc : Nat), cs = .slice ca q cc ∧ q ≤ m ∧ i = .int .i64 (q : Int) ∧ Box4 wr ob 28 (.slice p.a s.n p.ca) (.int .i64 s.t) (.slice p.b s.m p.cb) (.slice p.d s.l p.cd) ∧ SvK (fun g => NC (.slice ca q cc) g ∧ g ≠ ob) wr s p ∧ SzP s p ∧ RunQ A (sNew n) C q s ∧ IE wr w.heap.size (.slice ca q cc) q C ∧ Box4 wr w.heap.size 28 (.slice none 0 0) (.int .i64 0) (.slice none 0 0) (.slice none 0 0) ∧ Below w.heap.size w wr) (fun _ i _ => m - (intOf i).toNat)
 case atStart => exact ⟨0, sNew n, ⟨some ⟨g, 0, none⟩, aw, ar, fun i => slA2 (V i), fun _ => none, fun _ => none, fun i => slX2 (V i), fun _ => 0, fun _ => 0, c, 0, 0⟩, fun _ => 0, some ⟨ob + 1, 0, none⟩, 0, rfl, by omega, rfl, X3.out, SK3.out, SZ3.out, rfl, I3.out, R3.out, B3.out⟩
 case round =>
  clear SK3 SZ3 X3 I3 R3 B3 v3
  obtain ⟨q, s, p, C, ca, cc, rfl, hq, rfl, hx, hk, hz, hrun, hie, hr, hbw⟩ := hrel
  have BW : Hid (Below w.heap.size w wr) := hbw
  have RU : Hid (RunQ A (sNew n) C q s) := hrun
  have IC : Hid (IE wr w.heap.size (.slice ca q cc) q C) := hie
  have XO : Hid (Box4 wr ob 28 (.slice p.a s.n p.ca) (.int .i64 s.t) (.slice p.b s.m p.cb) (.slice p.d s.l p.cd)) := hx
  have SK : Hid (SvK (fun g => NC (.slice ca q cc) g ∧ g ≠ ob) wr s p) := hk
  have SZ : Hid (SzP s p) := hz
  have RB : Hid (Box4 wr w.heap.size 28 (.slice none 0 0) (.int .i64 0) (.slice none 0 0) (.slice none 0 0)) := hr
  have OK : Hid (RunOk s) := RunQ.ok (sNew_ok HN.out) hrun
  clear hx hk hz hrun hie hr hbw
  by_cases hlt : q < m
  ·have hlt' : (q : Int) < (m : Int) := by omega
   have hq0 : (0 : Int) ≤ (q : Int) := by omega
   have EL : Els wr 3 aa m (quF A) := HA.out.below BW.out
   obtain ⟨ab, off, rfl, -⟩ := Els.opened EL (by omega)
   have DC : Hid (∀ u : World, Below wr.heap.size wr u → u.cell? ⟨ab, off + q * 3, none⟩ = some (.int .i64 (A q).k) ∧ u.cell? ⟨ab, off + q * 3 + 1, none⟩ = some (.int .i64 (A q).r) ∧ u.cell? ⟨ab, off + q * 3 + 2, none⟩ = some (.int .i64 (A q).n)) := fun u hu => by
    obtain ⟨b', o', e, hc⟩ := Els.opened (EL.below hu) (by omega)
    cases e
    exact ⟨hc q hlt 0 (by omega), hc q hlt 1 (by omega), hc q hlt 2 (by omega)⟩
   have ST : Hid (∀ u : World, Below wr.heap.size wr u → Calls Try.prog 32 #[.agg #[.slice p.a s.n p.ca, .int .i64 s.t, .slice p.b s.m p.cb, .slice p.d s.l p.cd], .agg #[.int .i64 (A q).k, .int .i64 (A q).r, .int .i64 (A q).n]] u fun e w' => RetM u.heap.size s p ⟨(A q).k, (A q).r, (A q).n⟩ e w' ∧ Below u.heap.size u w') := fun u hu => l09Step_any s p (A q).k (A q).r (A q).n OK.out.1 u (SK.out.below hu).v SZ.out
   have HLT : Hid (q < m) := hlt
   clear EL hlt
   go_wp2_with fail
   go_cut [11, 12] (fun pv cv wx => ∃ (pb : Nat) (s2 : Sv) (p2 : Sa) (cd : Int), pv = .pointer (some ⟨pb, 0, none⟩) ∧ cv = .int .i64 cd ∧ StepS s ⟨(A q).k, (A q).r, (A q).n⟩ s2 cd ∧ Box4 wx pb 28 (.slice p2.a s2.n p2.ca) (.int .i64 s2.t) (.slice p2.b s2.m p2.cb) (.slice p2.d s2.l p2.cd) ∧ SvK (fun g => (NC (.slice ca q cc) g ∧ g ≠ ob) ∧ g ≠ pb) wx s2 p2 ∧ SzP s2 p2 ∧ Below wr.heap.size wr wx ∧ wr.heap.size ≤ pb)
   case first =>
    have H : Below wr.heap.size wr wr.drew := (Below.refl _ _).drew
    refine wp_region_noPanic ?_
    refine wp_region_held_drew (S := fun w' => Below wr.heap.size wr w') (by kernel_rfl) H (fun _ => ?_)
    generalize wr.drew = y0 at *
    refine tkH (i := 0) (v := .agg #[.slice p.a s.n p.ca, .int .i64 s.t, .slice p.b s.m p.cb, .slice p.d s.l p.cd]) rfl (by kernel_rfl) (by rfl) ?_ H ?_
    ·intro w' hSw; have t0 := (XO.out.below hSw).c0; have t1 := (XO.out.below hSw).c1; have t2 := (XO.out.below hSw).c2; have t3 := (XO.out.below hSw).c3; clear hSw; go_simp
    change wpAnyH _ _ _ _ _ _ _ { tmps := #[_,_,_,_,_,_,_,_,_,_,_,_,_,_,_,_,_,_,_,_,_,_,_,_,_,_,_,_,_,_,_,_,_,_,_,_,_,_,_,_,_,_,_,_,_,_,_,_,_,_,_,_,_,_,_,_,_], defers := _ } _
    refine tkH (i := 1) (v := .slice (some ⟨ab, off, none⟩) m ac) rfl (by kernel_rfl) (by rfl) ?_ H ?_
    ·intro w' hSw; clear hSw; go_simp
    change wpAnyH _ _ _ _ _ _ _ { tmps := #[_,_,_,_,_,_,_,_,_,_,_,_,_,_,_,_,_,_,_,_,_,_,_,_,_,_,_,_,_,_,_,_,_,_,_,_,_,_,_,_,_,_,_,_,_,_,_,_,_,_,_,_,_,_,_,_,_], defers := _ } _
    refine tkH (i := 2) (v := .int .i64 (q : Int)) rfl (by kernel_rfl) (by rfl) ?_ H ?_
    ·intro w' hSw; clear hSw; go_simp
    change wpAnyH _ _ _ _ _ _ _ { tmps := #[_,_,_,_,_,_,_,_,_,_,_,_,_,_,_,_,_,_,_,_,_,_,_,_,_,_,_,_,_,_,_,_,_,_,_,_,_,_,_,_,_,_,_,_,_,_,_,_,_,_,_,_,_,_,_,_,_], defers := _ } _
    refine tkH (i := 3) (v := .pointer (some ⟨ab, off + q * 3, none⟩)) rfl (by kernel_rfl) (by rfl) ?_ H ?_
    ·intro w' hSw; clear hSw; go_simp
    change wpAnyH _ _ _ _ _ _ _ { tmps := #[_,_,_,_,_,_,_,_,_,_,_,_,_,_,_,_,_,_,_,_,_,_,_,_,_,_,_,_,_,_,_,_,_,_,_,_,_,_,_,_,_,_,_,_,_,_,_,_,_,_,_,_,_,_,_,_,_], defers := _ } _
    refine tkH (i := 4) (v := .agg #[.int .i64 (A q).k, .int .i64 (A q).r, .int .i64 (A q).n]) rfl (by kernel_rfl) (by rfl) ?_ H ?_
    ·intro w' hSw; obtain ⟨r0, r1, r2⟩ := DC.out _ hSw; clear hSw; go_simp
    change wpAnyH _ _ _ _ _ _ _ { tmps := #[_,_,_,_,_,_,_,_,_,_,_,_,_,_,_,_,_,_,_,_,_,_,_,_,_,_,_,_,_,_,_,_,_,_,_,_,_,_,_,_,_,_,_,_,_,_,_,_,_,_,_,_,_,_,_,_,_], defers := _ } _
    refine wpAnyH_ready (rs := [5, 9]) (by kernel_rfl) (by simp) ?_
    refine (AllReadyH.cons rfl (fun KK hK => ?_) (AllReadyH.cons rfl (fun KK hK => ?_) AllReadyH.nil))
    ·skip
     try have PU : Hid (pb < y0.heap.size) := PB.out.lt
     go_simp
     refine (ST.out _ H).mono ?_
     rintro e y1 ⟨⟨s2, cd, p2, hst, rfl, hv, hz2, hor⟩, hb⟩
     obtain ⟨U, hU⟩ : ∃ x, x = y0.heap.size := ⟨_, rfl⟩
     obtain ⟨Y, hY⟩ : ∃ x, x = y1.heap.size := ⟨_, rfl⟩
     have HU : Hid (U = y0.heap.size) := hU
     have HY : Hid (Y = y1.heap.size) := hY
     have SK2 : Hid (SvK (fun g => (NC (.slice ca q cc) g ∧ g ≠ ob) ∧ (g < wr.heap.size ∨ U ≤ g) ∧ g < Y) y1 s2 p2) := by
      rcases hor with ⟨ea, eb⟩ | hor
      ·subst ea eb
       exact SK.out.step (Nat.le_trans H.size hb.size) (fun g hg hN => ⟨⟨hN, .inl hg, by rw [hY]; exact Nat.lt_of_lt_of_le hg (Nat.le_trans H.size hb.size)⟩, (hb.block g (Nat.lt_of_lt_of_le hg H.size)).trans (H.block g hg)⟩)
      ·exact fun u k => hor u (fun g h1 h2 => k g ⟨⟨fun e => by have := (EO.ge IC.out g e).2; have := H.size; omega, by have := XO.out.lt; have := H.size; omega⟩, .inr (by rw [hU]; exact h1), by rw [hY]; exact h2⟩ h2)
     replace H : Below wr.heap.size wr y1 := H.trans (hb.mono H.size)
     have HST : Hid (StepS s ⟨(A q).k, (A q).r, (A q).n⟩ s2 cd) := hst
     have HZ2 : Hid (SzP s2 p2) := hz2
     clear hb hst hv hz2 hor hU hY
     refine hK.out _ _ H (fun _ => ?_)
     clear hK KK
     change wpAnyH _ _ _ _ _ _ _ { tmps := #[_,_,_,_,_,_,_,_,_,_,_,_,_,_,_,_,_,_,_,_,_,_,_,_,_,_,_,_,_,_,_,_,_,_,_,_,_,_,_,_,_,_,_,_,_,_,_,_,_,_,_,_,_,_,_,_,_], defers := _ } _
     refine tkH (i := 6) (v := .tuple #[.agg #[.slice p2.a s2.n p2.ca, .int .i64 s2.t, .slice p2.b s2.m p2.cb, .slice p2.d s2.l p2.cd], .int .i64 cd]) rfl (by kernel_rfl) (by rfl) ?_ H ?_
     ·intro w' hSw; clear hSw; go_simp
     change wpAnyH _ _ _ _ _ _ _ { tmps := #[_,_,_,_,_,_,_,_,_,_,_,_,_,_,_,_,_,_,_,_,_,_,_,_,_,_,_,_,_,_,_,_,_,_,_,_,_,_,_,_,_,_,_,_,_,_,_,_,_,_,_,_,_,_,_,_,_], defers := _ } _
     refine tkH (i := 7) (v := .agg #[.slice p2.a s2.n p2.ca, .int .i64 s2.t, .slice p2.b s2.m p2.cb, .slice p2.d s2.l p2.cd]) rfl (by kernel_rfl) (by rfl) ?_ H ?_
     ·intro w' hSw; clear hSw; go_simp
     change wpAnyH _ _ _ _ _ _ _ { tmps := #[_,_,_,_,_,_,_,_,_,_,_,_,_,_,_,_,_,_,_,_,_,_,_,_,_,_,_,_,_,_,_,_,_,_,_,_,_,_,_,_,_,_,_,_,_,_,_,_,_,_,_,_,_,_,_,_,_], defers := _ } _
     refine tkH (i := 8) (v := .int .i64 cd) rfl (by kernel_rfl) (by rfl) ?_ H ?_
     ·intro w' hSw; clear hSw; go_simp
     change wpAnyH _ _ _ _ _ _ _ { tmps := #[_,_,_,_,_,_,_,_,_,_,_,_,_,_,_,_,_,_,_,_,_,_,_,_,_,_,_,_,_,_,_,_,_,_,_,_,_,_,_,_,_,_,_,_,_,_,_,_,_,_,_,_,_,_,_,_,_], defers := _ } _
     refine rdH (i := 9) (by kernel_rfl) rfl (fun KK hK => ?_)
     go_simp
     have hb : Below y1.heap.size y1 (y1.alloc (.cells #[.slice none 0 0, .int .i64 0, .slice none 0 0, .slice none 0 0] 28)) := (Below.refl _ _).alloc (Nat.le_refl _) _
     have PB : Hid (Box4 (y1.alloc (.cells #[.slice none 0 0, .int .i64 0, .slice none 0 0, .slice none 0 0] 28)) y1.heap.size 28 (.slice none 0 0) (.int .i64 0) (.slice none 0 0) (.slice none 0 0)) := Box4.madeAt rfl _ _ _ _ _
     have Lpb : Hid (wr.heap.size ≤ y1.heap.size) := H.size
     replace SK2 : Hid (SvK (fun g => (NC (.slice ca q cc) g ∧ g ≠ ob) ∧ (g < wr.heap.size ∨ U ≤ g) ∧ g < Y) (y1.alloc (.cells #[.slice none 0 0, .int .i64 0, .slice none 0 0, .slice none 0 0] 28)) s2 p2) := SK2.out.below hb
     replace H : Below wr.heap.size wr (y1.alloc (.cells #[.slice none 0 0, .int .i64 0, .slice none 0 0, .slice none 0 0] 28)) := H.trans (hb.mono H.size)
     clear hb
     refine hK.out _ _ H (fun _ => ?_)
     clear hK KK
     generalize (y1.alloc (.cells #[.slice none 0 0, .int .i64 0, .slice none 0 0, .slice none 0 0] 28)) = y2 at *
     generalize y1.heap.size = pb at *
     change wpAnyH _ _ _ _ _ _ _ { tmps := #[_,_,_,_,_,_,_,_,_,_,_,_,_,_,_,_,_,_,_,_,_,_,_,_,_,_,_,_,_,_,_,_,_,_,_,_,_,_,_,_,_,_,_,_,_,_,_,_,_,_,_,_,_,_,_,_,_], defers := _ } _
     refine rdH (i := 10) (by kernel_rfl) rfl (fun KK hK => ?_)
     have t0 := PB.out.c0
     have t1 := PB.out.c1
     have t2 := PB.out.c2
     have t3 := PB.out.c3
     have f0 := PB.out.fr 0
     have f1 := PB.out.fr 1
     have f2 := PB.out.fr 2
     have f3 := PB.out.fr 3
     go_simp
     replace H : Below wr.heap.size wr ((((y2.setCell ⟨pb, 0, none⟩ (.slice p2.a s2.n p2.ca)).setCell ⟨pb, 1, none⟩ (.int .i64 s2.t)).setCell ⟨pb, 2, none⟩ (.slice p2.b s2.m p2.cb)).setCell ⟨pb, 3, none⟩ (.slice p2.d s2.l p2.cd)) := below_res H Lpb.out _ _ _ _
     refine hK.out _ _ H (fun _ => ?_)
     clear hK KK
     change wpAnyH _ _ _ _ _ _ _ { tmps := #[_,_,_,_,_,_,_,_,_,_,_,_,_,_,_,_,_,_,_,_,_,_,_,_,_,_,_,_,_,_,_,_,_,_,_,_,_,_,_,_,_,_,_,_,_,_,_,_,_,_,_,_,_,_,_,_,_], defers := _ } _
     refine tkH (i := 11) (v := .int .i64 cd) rfl (by kernel_rfl) (by rfl) ?_ H ?_
     ·intro w' hSw; clear hSw; go_simp
     change wpAnyH _ _ _ _ _ _ _ { tmps := #[_,_,_,_,_,_,_,_,_,_,_,_,_,_,_,_,_,_,_,_,_,_,_,_,_,_,_,_,_,_,_,_,_,_,_,_,_,_,_,_,_,_,_,_,_,_,_,_,_,_,_,_,_,_,_,_,_], defers := _ } _
     refine wpAnyH_done (by kernel_rfl) ?_ _
     refine NoPanic.normal ?_
     have XB : Hid (Box4 ((((y2.setCell ⟨pb, 0, none⟩ (.slice p2.a s2.n p2.ca)).setCell ⟨pb, 1, none⟩ (.int .i64 s2.t)).setCell ⟨pb, 2, none⟩ (.slice p2.b s2.m p2.cb)).setCell ⟨pb, 3, none⟩ (.slice p2.d s2.l p2.cd)) pb 28 (.slice p2.a s2.n p2.ca) (.int .i64 s2.t) (.slice p2.b s2.m p2.cb) (.slice p2.d s2.l p2.cd)) := (((PB.out.set0 _).set1 _).set2 _).set3 _
     have HF : Hid (Below wr.heap.size wr ((((y2.setCell ⟨pb, 0, none⟩ (.slice p2.a s2.n p2.ca)).setCell ⟨pb, 1, none⟩ (.int .i64 s2.t)).setCell ⟨pb, 2, none⟩ (.slice p2.b s2.m p2.cb)).setCell ⟨pb, 3, none⟩ (.slice p2.d s2.l p2.cd))) := H
     have NP : ∀ g, (fun g => (NC (.slice ca q cc) g ∧ g ≠ ob) ∧ (g < wr.heap.size ∨ U ≤ g) ∧ g < Y) g → g ≠ pb := fun g hN e => by have h1 := hN.2.1; have h2 := hN.2.2; have h3 := Lpb.out; have h4 := HU.out; have h5 := HY.out; first | omega | (have h6 := PU.out; omega)
     have SF : Hid (SvK (fun g => (NC (.slice ca q cc) g ∧ g ≠ ob) ∧ g ≠ pb) ((((y2.setCell ⟨pb, 0, none⟩ (.slice p2.a s2.n p2.ca)).setCell ⟨pb, 1, none⟩ (.int .i64 s2.t)).setCell ⟨pb, 2, none⟩ (.slice p2.b s2.m p2.cb)).setCell ⟨pb, 3, none⟩ (.slice p2.d s2.l p2.cd)) s2 p2) := SK2.out.step (by simp) (fun g hg hN => ⟨⟨hN.1, NP g hN⟩, by rw [Below.heap_setCell _ ⟨pb, 3, none⟩ _ g (NP g hN), Below.heap_setCell _ ⟨pb, 2, none⟩ _ g (NP g hN), Below.heap_setCell _ ⟨pb, 1, none⟩ _ g (NP g hN), Below.heap_setCell _ ⟨pb, 0, none⟩ _ g (NP g hN)]⟩)
     clear PB H t0 t1 t2 t3 f0 f1 f2 f3 SK2 NP HU HY
     change Exit.then _ _ Exit.normal { tmps := #[_, _, _, _, _, _, _, _, _, _, _, _, _, _, _, _, _, _, _, _, _, _, _, _, _, _, _, _, _, _, _, _, _, _, _, _, _, _, _, _, _, _, _, _, _, _, _, _, _, _, _, _, _, _, _, _, _], defers := _ } _
     generalize (((y2.setCell ⟨pb, 0, none⟩ (.slice p2.a s2.n p2.ca)).setCell ⟨pb, 1, none⟩ (.int .i64 s2.t)).setCell ⟨pb, 2, none⟩ (.slice p2.b s2.m p2.cb)).setCell ⟨pb, 3, none⟩ (.slice p2.d s2.l p2.cd) = zz at *
     go_wp2_with fail
     go_meet
     exact ⟨pb, s2, p2, cd, rfl, rfl, HST.out, XB.out, SF.out, HZ2.out, HF.out, Lpb.out⟩
    ·skip
     go_simp
     have hb : Below y0.heap.size y0 (y0.alloc (.cells #[.slice none 0 0, .int .i64 0, .slice none 0 0, .slice none 0 0] 28)) := (Below.refl _ _).alloc (Nat.le_refl _) _
     have PB : Hid (Box4 (y0.alloc (.cells #[.slice none 0 0, .int .i64 0, .slice none 0 0, .slice none 0 0] 28)) y0.heap.size 28 (.slice none 0 0) (.int .i64 0) (.slice none 0 0) (.slice none 0 0)) := Box4.madeAt rfl _ _ _ _ _
     have Lpb : Hid (wr.heap.size ≤ y0.heap.size) := H.size
     replace H : Below wr.heap.size wr (y0.alloc (.cells #[.slice none 0 0, .int .i64 0, .slice none 0 0, .slice none 0 0] 28)) := H.trans (hb.mono H.size)
     clear hb
     refine hK.out _ _ H (fun _ => ?_)
     clear hK KK
     generalize (y0.alloc (.cells #[.slice none 0 0, .int .i64 0, .slice none 0 0, .slice none 0 0] 28)) = y1 at *
     generalize y0.heap.size = pb at *
     change wpAnyH _ _ _ _ _ _ _ { tmps := #[_,_,_,_,_,_,_,_,_,_,_,_,_,_,_,_,_,_,_,_,_,_,_,_,_,_,_,_,_,_,_,_,_,_,_,_,_,_,_,_,_,_,_,_,_,_,_,_,_,_,_,_,_,_,_,_,_], defers := _ } _
     refine rdH (i := 5) (by kernel_rfl) rfl (fun KK hK => ?_)
     try have PU : Hid (pb < y1.heap.size) := PB.out.lt
     go_simp
     refine (ST.out _ H).mono ?_
     rintro e y2 ⟨⟨s2, cd, p2, hst, rfl, hv, hz2, hor⟩, hb⟩
     replace PB : Hid (Box4 y2 pb 28 (.slice none 0 0) (.int .i64 0) (.slice none 0 0) (.slice none 0 0)) := PB.out.below hb
     obtain ⟨U, hU⟩ : ∃ x, x = y1.heap.size := ⟨_, rfl⟩
     obtain ⟨Y, hY⟩ : ∃ x, x = y2.heap.size := ⟨_, rfl⟩
     have HU : Hid (U = y1.heap.size) := hU
     have HY : Hid (Y = y2.heap.size) := hY
     have SK2 : Hid (SvK (fun g => (NC (.slice ca q cc) g ∧ g ≠ ob) ∧ (g < wr.heap.size ∨ U ≤ g) ∧ g < Y) y2 s2 p2) := by
      rcases hor with ⟨ea, eb⟩ | hor
      ·subst ea eb
       exact SK.out.step (Nat.le_trans H.size hb.size) (fun g hg hN => ⟨⟨hN, .inl hg, by rw [hY]; exact Nat.lt_of_lt_of_le hg (Nat.le_trans H.size hb.size)⟩, (hb.block g (Nat.lt_of_lt_of_le hg H.size)).trans (H.block g hg)⟩)
      ·exact fun u k => hor u (fun g h1 h2 => k g ⟨⟨fun e => by have := (EO.ge IC.out g e).2; have := H.size; omega, by have := XO.out.lt; have := H.size; omega⟩, .inr (by rw [hU]; exact h1), by rw [hY]; exact h2⟩ h2)
     replace H : Below wr.heap.size wr y2 := H.trans (hb.mono H.size)
     have HST : Hid (StepS s ⟨(A q).k, (A q).r, (A q).n⟩ s2 cd) := hst
     have HZ2 : Hid (SzP s2 p2) := hz2
     clear hb hst hv hz2 hor hU hY
     refine hK.out _ _ H (fun _ => ?_)
     clear hK KK
     change wpAnyH _ _ _ _ _ _ _ { tmps := #[_,_,_,_,_,_,_,_,_,_,_,_,_,_,_,_,_,_,_,_,_,_,_,_,_,_,_,_,_,_,_,_,_,_,_,_,_,_,_,_,_,_,_,_,_,_,_,_,_,_,_,_,_,_,_,_,_], defers := _ } _
     refine tkH (i := 6) (v := .tuple #[.agg #[.slice p2.a s2.n p2.ca, .int .i64 s2.t, .slice p2.b s2.m p2.cb, .slice p2.d s2.l p2.cd], .int .i64 cd]) rfl (by kernel_rfl) (by rfl) ?_ H ?_
     ·intro w' hSw; clear hSw; go_simp
     change wpAnyH _ _ _ _ _ _ _ { tmps := #[_,_,_,_,_,_,_,_,_,_,_,_,_,_,_,_,_,_,_,_,_,_,_,_,_,_,_,_,_,_,_,_,_,_,_,_,_,_,_,_,_,_,_,_,_,_,_,_,_,_,_,_,_,_,_,_,_], defers := _ } _
     refine tkH (i := 7) (v := .agg #[.slice p2.a s2.n p2.ca, .int .i64 s2.t, .slice p2.b s2.m p2.cb, .slice p2.d s2.l p2.cd]) rfl (by kernel_rfl) (by rfl) ?_ H ?_
     ·intro w' hSw; clear hSw; go_simp
     change wpAnyH _ _ _ _ _ _ _ { tmps := #[_,_,_,_,_,_,_,_,_,_,_,_,_,_,_,_,_,_,_,_,_,_,_,_,_,_,_,_,_,_,_,_,_,_,_,_,_,_,_,_,_,_,_,_,_,_,_,_,_,_,_,_,_,_,_,_,_], defers := _ } _
     refine tkH (i := 8) (v := .int .i64 cd) rfl (by kernel_rfl) (by rfl) ?_ H ?_
     ·intro w' hSw; clear hSw; go_simp
     change wpAnyH _ _ _ _ _ _ _ { tmps := #[_,_,_,_,_,_,_,_,_,_,_,_,_,_,_,_,_,_,_,_,_,_,_,_,_,_,_,_,_,_,_,_,_,_,_,_,_,_,_,_,_,_,_,_,_,_,_,_,_,_,_,_,_,_,_,_,_], defers := _ } _
     refine rdH (i := 10) (by kernel_rfl) rfl (fun KK hK => ?_)
     have t0 := PB.out.c0
     have t1 := PB.out.c1
     have t2 := PB.out.c2
     have t3 := PB.out.c3
     have f0 := PB.out.fr 0
     have f1 := PB.out.fr 1
     have f2 := PB.out.fr 2
     have f3 := PB.out.fr 3
     go_simp
     replace H : Below wr.heap.size wr ((((y2.setCell ⟨pb, 0, none⟩ (.slice p2.a s2.n p2.ca)).setCell ⟨pb, 1, none⟩ (.int .i64 s2.t)).setCell ⟨pb, 2, none⟩ (.slice p2.b s2.m p2.cb)).setCell ⟨pb, 3, none⟩ (.slice p2.d s2.l p2.cd)) := below_res H Lpb.out _ _ _ _
     refine hK.out _ _ H (fun _ => ?_)
     clear hK KK
     change wpAnyH _ _ _ _ _ _ _ { tmps := #[_,_,_,_,_,_,_,_,_,_,_,_,_,_,_,_,_,_,_,_,_,_,_,_,_,_,_,_,_,_,_,_,_,_,_,_,_,_,_,_,_,_,_,_,_,_,_,_,_,_,_,_,_,_,_,_,_], defers := _ } _
     refine tkH (i := 11) (v := .int .i64 cd) rfl (by kernel_rfl) (by rfl) ?_ H ?_
     ·intro w' hSw; clear hSw; go_simp
     change wpAnyH _ _ _ _ _ _ _ { tmps := #[_,_,_,_,_,_,_,_,_,_,_,_,_,_,_,_,_,_,_,_,_,_,_,_,_,_,_,_,_,_,_,_,_,_,_,_,_,_,_,_,_,_,_,_,_,_,_,_,_,_,_,_,_,_,_,_,_], defers := _ } _
     refine wpAnyH_done (by kernel_rfl) ?_ _
     refine NoPanic.normal ?_
     have XB : Hid (Box4 ((((y2.setCell ⟨pb, 0, none⟩ (.slice p2.a s2.n p2.ca)).setCell ⟨pb, 1, none⟩ (.int .i64 s2.t)).setCell ⟨pb, 2, none⟩ (.slice p2.b s2.m p2.cb)).setCell ⟨pb, 3, none⟩ (.slice p2.d s2.l p2.cd)) pb 28 (.slice p2.a s2.n p2.ca) (.int .i64 s2.t) (.slice p2.b s2.m p2.cb) (.slice p2.d s2.l p2.cd)) := (((PB.out.set0 _).set1 _).set2 _).set3 _
     have HF : Hid (Below wr.heap.size wr ((((y2.setCell ⟨pb, 0, none⟩ (.slice p2.a s2.n p2.ca)).setCell ⟨pb, 1, none⟩ (.int .i64 s2.t)).setCell ⟨pb, 2, none⟩ (.slice p2.b s2.m p2.cb)).setCell ⟨pb, 3, none⟩ (.slice p2.d s2.l p2.cd))) := H
     have NP : ∀ g, (fun g => (NC (.slice ca q cc) g ∧ g ≠ ob) ∧ (g < wr.heap.size ∨ U ≤ g) ∧ g < Y) g → g ≠ pb := fun g hN e => by have h1 := hN.2.1; have h2 := hN.2.2; have h3 := Lpb.out; have h4 := HU.out; have h5 := HY.out; first | omega | (have h6 := PU.out; omega)
     have SF : Hid (SvK (fun g => (NC (.slice ca q cc) g ∧ g ≠ ob) ∧ g ≠ pb) ((((y2.setCell ⟨pb, 0, none⟩ (.slice p2.a s2.n p2.ca)).setCell ⟨pb, 1, none⟩ (.int .i64 s2.t)).setCell ⟨pb, 2, none⟩ (.slice p2.b s2.m p2.cb)).setCell ⟨pb, 3, none⟩ (.slice p2.d s2.l p2.cd)) s2 p2) := SK2.out.step (by simp) (fun g hg hN => ⟨⟨hN.1, NP g hN⟩, by rw [Below.heap_setCell _ ⟨pb, 3, none⟩ _ g (NP g hN), Below.heap_setCell _ ⟨pb, 2, none⟩ _ g (NP g hN), Below.heap_setCell _ ⟨pb, 1, none⟩ _ g (NP g hN), Below.heap_setCell _ ⟨pb, 0, none⟩ _ g (NP g hN)]⟩)
     clear PB H t0 t1 t2 t3 f0 f1 f2 f3 SK2 NP HU HY
     change Exit.then _ _ Exit.normal { tmps := #[_, _, _, _, _, _, _, _, _, _, _, _, _, _, _, _, _, _, _, _, _, _, _, _, _, _, _, _, _, _, _, _, _, _, _, _, _, _, _, _, _, _, _, _, _, _, _, _, _, _, _, _, _, _, _, _, _], defers := _ } _
     generalize (((y2.setCell ⟨pb, 0, none⟩ (.slice p2.a s2.n p2.ca)).setCell ⟨pb, 1, none⟩ (.int .i64 s2.t)).setCell ⟨pb, 2, none⟩ (.slice p2.b s2.m p2.cb)).setCell ⟨pb, 3, none⟩ (.slice p2.d s2.l p2.cd) = zz at *
     go_wp2_with fail
     go_meet
     exact ⟨pb, s2, p2, cd, rfl, rfl, HST.out, XB.out, SF.out, HZ2.out, HF.out, Lpb.out⟩
   case rest =>
    obtain ⟨pb, s2, p2, cd, rfl, rfl, hst, hxp, hk2, hz2, hb, hge⟩ := hcut
    have I3 : IE wc w.heap.size (.slice ca q cc) q C := EO.below IC.out hb
    have X3 := XO.out.below hb
    have A3 := BW.out.trans (hb.mono BW.out.size)
    have hne : pb ≠ ob := by have := XO.out.lt; omega
    have WX : wr.heap.size ≤ wc.heap.size := hb.size
    have R3 : Box4 wc w.heap.size 28 (.slice none 0 0) (.int .i64 0) (.slice none 0 0) (.slice none 0 0) := RB.out.below hb
    have hne2 : w.heap.size ≠ pb := by have := RB.out.lt; omega
    have b0 := hxp.c0
    have x0 := X3.c0
    have f0 := X3.fr 0
    have b1 := hxp.c1
    have x1 := X3.c1
    have f1 := X3.fr 1
    have b2 := hxp.c2
    have x2 := X3.c2
    have f2 := X3.fr 2
    have b3 := hxp.c3
    have x3 := X3.c3
    have f3 := X3.fr 3
    have I4 : IE ((((wc.setCell ⟨ob, 0, none⟩ (.slice p2.a s2.n p2.ca)).setCell ⟨ob, 1, none⟩ (.int .i64 s2.t)).setCell ⟨ob, 2, none⟩ (.slice p2.b s2.m p2.cb)).setCell ⟨ob, 3, none⟩ (.slice p2.d s2.l p2.cd)) w.heap.size (.slice ca q cc) q C := EO.keep I3 (fun g e => by
     have hg : g ≠ ob := fun e2 => EO.notB4 I3 X3 (by decide) (e2 ▸ e)
     rw [Below.heap_setCell _ ⟨ob, 3, none⟩ _ g hg, Below.heap_setCell _ ⟨ob, 2, none⟩ _ g hg, Below.heap_setCell _ ⟨ob, 1, none⟩ _ g hg, Below.heap_setCell _ ⟨ob, 0, none⟩ _ g hg])
    have kp : ∀ g, g ≠ ob → ((((wc.setCell ⟨ob, 0, none⟩ (.slice p2.a s2.n p2.ca)).setCell ⟨ob, 1, none⟩ (.int .i64 s2.t)).setCell ⟨ob, 2, none⟩ (.slice p2.b s2.m p2.cb)).setCell ⟨ob, 3, none⟩ (.slice p2.d s2.l p2.cd)).heap[g]? = wc.heap[g]? := fun g hg => by
     rw [Below.heap_setCell _ ⟨ob, 3, none⟩ _ g hg, Below.heap_setCell _ ⟨ob, 2, none⟩ _ g hg, Below.heap_setCell _ ⟨ob, 1, none⟩ _ g hg, Below.heap_setCell _ ⟨ob, 0, none⟩ _ g hg]
    have K3 : SvK (fun g => (NC (.slice ca q cc) g ∧ g ≠ ob) ∧ g ≠ pb) ((((wc.setCell ⟨ob, 0, none⟩ (.slice p2.a s2.n p2.ca)).setCell ⟨ob, 1, none⟩ (.int .i64 s2.t)).setCell ⟨ob, 2, none⟩ (.slice p2.b s2.m p2.cb)).setCell ⟨ob, 3, none⟩ (.slice p2.d s2.l p2.cd)) s2 p2 := hk2.step (by simp) (fun g hg hN => ⟨hN, kp g hN.1.2⟩)
    have X4 : Box4 ((((wc.setCell ⟨ob, 0, none⟩ (.slice p2.a s2.n p2.ca)).setCell ⟨ob, 1, none⟩ (.int .i64 s2.t)).setCell ⟨ob, 2, none⟩ (.slice p2.b s2.m p2.cb)).setCell ⟨ob, 3, none⟩ (.slice p2.d s2.l p2.cd)) ob 28 (.slice p2.a s2.n p2.ca) (.int .i64 s2.t) (.slice p2.b s2.m p2.cb) (.slice p2.d s2.l p2.cd) := (((X3.set0 _).set1 _).set2 _).set3 _
    have ROB : Hid (w.heap.size ≠ ob) := Nat.ne_of_lt WO.out
    have R4 : Box4 ((((wc.setCell ⟨ob, 0, none⟩ (.slice p2.a s2.n p2.ca)).setCell ⟨ob, 1, none⟩ (.int .i64 s2.t)).setCell ⟨ob, 2, none⟩ (.slice p2.b s2.m p2.cb)).setCell ⟨ob, 3, none⟩ (.slice p2.d s2.l p2.cd)) w.heap.size 28 (.slice none 0 0) (.int .i64 0) (.slice none 0 0) (.slice none 0 0) := R3.ofBlock (kp _ ROB.out)
    have A4 : Below w.heap.size w ((((wc.setCell ⟨ob, 0, none⟩ (.slice p2.a s2.n p2.ca)).setCell ⟨ob, 1, none⟩ (.int .i64 s2.t)).setCell ⟨ob, 2, none⟩ (.slice p2.b s2.m p2.cb)).setCell ⟨ob, 3, none⟩ (.slice p2.d s2.l p2.cd)) := below_res A3 (Nat.le_of_lt WO.out) _ _ _ _
    have hs4 : ((((wc.setCell ⟨ob, 0, none⟩ (.slice p2.a s2.n p2.ca)).setCell ⟨ob, 1, none⟩ (.int .i64 s2.t)).setCell ⟨ob, 2, none⟩ (.slice p2.b s2.m p2.cb)).setCell ⟨ob, 3, none⟩ (.slice p2.d s2.l p2.cd)).heap.size = wc.heap.size := by simp
    have hb5 : Below ((((wc.setCell ⟨ob, 0, none⟩ (.slice p2.a s2.n p2.ca)).setCell ⟨ob, 1, none⟩ (.int .i64 s2.t)).setCell ⟨ob, 2, none⟩ (.slice p2.b s2.m p2.cb)).setCell ⟨ob, 3, none⟩ (.slice p2.d s2.l p2.cd)).heap.size ((((wc.setCell ⟨ob, 0, none⟩ (.slice p2.a s2.n p2.ca)).setCell ⟨ob, 1, none⟩ (.int .i64 s2.t)).setCell ⟨ob, 2, none⟩ (.slice p2.b s2.m p2.cb)).setCell ⟨ob, 3, none⟩ (.slice p2.d s2.l p2.cd)) (((((wc.setCell ⟨ob, 0, none⟩ (.slice p2.a s2.n p2.ca)).setCell ⟨ob, 1, none⟩ (.int .i64 s2.t)).setCell ⟨ob, 2, none⟩ (.slice p2.b s2.m p2.cb)).setCell ⟨ob, 3, none⟩ (.slice p2.d s2.l p2.cd)).alloc (.cells #[.int .i64 cd] 3)) := (Below.refl _ _).alloc (Nat.le_refl _) _
    have hs5 : (((((wc.setCell ⟨ob, 0, none⟩ (.slice p2.a s2.n p2.ca)).setCell ⟨ob, 1, none⟩ (.int .i64 s2.t)).setCell ⟨ob, 2, none⟩ (.slice p2.b s2.m p2.cb)).setCell ⟨ob, 3, none⟩ (.slice p2.d s2.l p2.cd)).alloc (.cells #[.int .i64 cd] 3)).heap.size = wc.heap.size + 1 := by simp
    obtain ⟨v', w5, hap, ho, hgr, hloc⟩ := IE.app (((((wc.setCell ⟨ob, 0, none⟩ (.slice p2.a s2.n p2.ca)).setCell ⟨ob, 1, none⟩ (.int .i64 s2.t)).setCell ⟨ob, 2, none⟩ (.slice p2.b s2.m p2.cb)).setCell ⟨ob, 3, none⟩ (.slice p2.d s2.l p2.cd)).alloc (.cells #[.int .i64 cd] 3)) w.heap.size (.slice ca q cc) q wc.heap.size C cd (Nat.le_trans A4.size hb5.size) (by have := HM.out; have := HLT.out; omega) (EO.below I4 hb5) ((World.cell?_alloc_at (w := ((((wc.setCell ⟨ob, 0, none⟩ (.slice p2.a s2.n p2.ca)).setCell ⟨ob, 1, none⟩ (.int .i64 s2.t)).setCell ⟨ob, 2, none⟩ (.slice p2.b s2.m p2.cb)).setCell ⟨ob, 3, none⟩ (.slice p2.d s2.l p2.cd))) #[.int .i64 cd] _ wc.heap.size 0 (by simp)).trans rfl)
    obtain ⟨na, nc, rfl⟩ := EO.form ho
    have I5 : Hid (IE w5 w.heap.size (.slice na (q + 1) nc) (q + 1) (updE C q cd)) := ho
    have bk : ∀ {g : Nat} {x y z u : Value}, Box4 ((((wc.setCell ⟨ob, 0, none⟩ (.slice p2.a s2.n p2.ca)).setCell ⟨ob, 1, none⟩ (.int .i64 s2.t)).setCell ⟨ob, 2, none⟩ (.slice p2.b s2.m p2.cb)).setCell ⟨ob, 3, none⟩ (.slice p2.d s2.l p2.cd)) g 28 x y z u → Box4 w5 g 28 x y z u := fun hq => (hq.below hb5).ofBlock (hgr.block _ (Nat.lt_of_lt_of_le hq.lt hb5.size) (fun e => EO.notB4 I4 hq (by decide) e.symm))
    have X5 : Hid (Box4 w5 ob 28 (.slice p2.a s2.n p2.ca) (.int .i64 s2.t) (.slice p2.b s2.m p2.cb) (.slice p2.d s2.l p2.cd)) := bk X4
    have R5 : Hid (Box4 w5 w.heap.size 28 (.slice none 0 0) (.int .i64 0) (.slice none 0 0) (.slice none 0 0)) := bk R4
    have A5 : Hid (Below w.heap.size w w5) := (A4.trans (hb5.mono A4.size)).grown hgr (Nat.le_trans A4.size hb5.size) (fun g e => (EO.ge I4 g e).1)
    have K5 : Hid (SvK (fun g => NC (.slice na (q + 1) nc) g ∧ g ≠ ob) w5 s2 p2) := K3.step (Nat.le_trans hb5.size hgr.size) (fun g hg hN => ⟨⟨fun e => by
     rcases hloc with l | l
     ·exact hN.1.1 (l ▸ e)
     ·rw [l] at e
      have e' : (((((wc.setCell ⟨ob, 0, none⟩ (.slice p2.a s2.n p2.ca)).setCell ⟨ob, 1, none⟩ (.int .i64 s2.t)).setCell ⟨ob, 2, none⟩ (.slice p2.b s2.m p2.cb)).setCell ⟨ob, 3, none⟩ (.slice p2.d s2.l p2.cd)).alloc (.cells #[.int .i64 cd] 3)).heap.size = g := Option.some.inj e
      omega, hN.1.2⟩, (hgr.block g (Nat.lt_of_lt_of_le hg hb5.size) (fun e => hN.1.1 e.symm)).trans (hb5.block g hg)⟩)
    have RU5 : Hid (RunQ A (sNew n) (updE C q cd) (q + 1) s2) := ⟨s, RU.out.congr (fun i hi => by rw [updE_ne _ _ (by omega)]), by rw [updE_eq]; exact hst⟩
    have SZ5 : Hid (SzP s2 p2) := hz2
    clear IC BW RU XO SK SZ RB OK I3 X3 A3 hne WX R3 hne2 I4 kp K3 X4 R4 A4 hs4 hb5 hs5 ho hgr hloc bk hst hxp hk2 hz2 hb hge ST DC ROB
    go_wp2_with (at_builtin; refine Lib.wpList_append_run _ rfl (.tmp 50) (.tmp 52) 29 29 rfl (.slice ca q cc) (.slice (some ⟨wc.heap.size, 0, none⟩) 1 1) rfl rfl _ _ (hap _) ?_)
    go_roundw
    case rel => exact ⟨q + 1, s2, p2, updE C q cd, na, nc, rfl, by have := HLT.out; omega, by go_num, X5.out, K5.out, SZ5.out, RU5.out, I5.out, R5.out, A5.out⟩
    case measure => have := HLT.out; simp [intOf]; omega
  ·obtain rfl : m = q := by omega
   have hlt' : ¬ (m : Int) < (m : Int) := by omega
   have mx : s.max 1000 := by
    have n7 := OK.out.1.1.1.2
    refine ⟨⟨by omega, fun i hi => ?_⟩, ⟨by have := OK.out.1.1.2.2.1; omega, fun i hi => ?_⟩, by have := OK.out.1.1.2.2.2; omega, fun i hi => ?_⟩
    ·have := ids_le (OK.out.1.2.2.1 i hi).2.1; omega
    ·have := ids_le (OK.out.1.2.1 i hi).2.2.2.1; omega
    ·have := ids_le (OK.out.1.2.2.2 i hi).2.1; omega
   have OW : Hid (Calls Try.prog 33 #[.agg #[.slice p.a s.n p.ca, .int .i64 s.t, .slice p.b s.m p.cb, .slice p.d s.l p.cd]] wr fun e w' => RetOw wr.heap.size s e w' ∧ Below wr.heap.size wr w') := l09Own_any s p mx wr SK.out.v SZ.out
   have x0 := XO.out.c0
   have x1 := XO.out.c1
   have x2 := XO.out.c2
   have x3 := XO.out.c3
   clear mx hlt
   go_wp2_with fail
   refine OW.out.mono ?_
   rintro e w6 ⟨⟨vr, vw, vq, VR, VW, VQ, rfl, hO, hD⟩, hb6⟩
   obtain ⟨r1, r2, rfl⟩ := hO.r.form
   obtain ⟨t1, t2, rfl⟩ := hO.x.form
   obtain ⟨q1, q2, rfl⟩ := hO.q.form
   have RE : Box4 w6 w.heap.size 28 (.slice none 0 0) (.int .i64 0) (.slice none 0 0) (.slice none 0 0) := RB.out.below hb6
   have IE6 : IE w6 w.heap.size (.slice ca m cc) m C := EO.below IC.out hb6
   clear x0 x1 x2 x3 OW
   have k0 := RE.c0
   have f0 := RE.fr 0
   have k1 := RE.c1
   have f1 := RE.fr 1
   have k2 := RE.c2
   have f2 := RE.fr 2
   have k3 := RE.c3
   have f3 := RE.fr 3
   have O5 : OnlyB w.heap.size w6 ((((w6.setCell ⟨w.heap.size, 0, none⟩ (.slice r1 s.n r2)).setCell ⟨w.heap.size, 1, none⟩ (.int .i64 s.t)).setCell ⟨w.heap.size, 2, none⟩ (.slice t1 s.m t2)).setCell ⟨w.heap.size, 3, none⟩ (.slice q1 s.l q2)) := ((((OnlyB.refl _ w6).setCell 0 _).setCell 1 _).setCell 2 _).setCell 3 _
   have X5 : Hid (Box4 ((((w6.setCell ⟨w.heap.size, 0, none⟩ (.slice r1 s.n r2)).setCell ⟨w.heap.size, 1, none⟩ (.int .i64 s.t)).setCell ⟨w.heap.size, 2, none⟩ (.slice t1 s.m t2)).setCell ⟨w.heap.size, 3, none⟩ (.slice q1 s.l q2)) w.heap.size 28 (.slice r1 s.n r2) (.int .i64 s.t) (.slice t1 s.m t2) (.slice q1 s.l q2)) := (((RE.set0 _).set1 _).set2 _).set3 _
   have lw : w.heap.size < wr.heap.size := RB.out.lt
   have cw : ∀ g, wr.heap.size ≤ g → NC (.slice ca m cc) g := fun g hg e => by have := (EO.ge IC.out g e).2; omega
   have Q5 : Hid (RetRn w.heap.size n m A (.returned (.tuple #[.agg #[.slice r1 s.n r2, .int .i64 s.t, .slice t1 s.m t2, .slice q1 s.l q2], .slice ca m cc, .int .i64 0])) ((((w6.setCell ⟨w.heap.size, 0, none⟩ (.slice r1 s.n r2)).setCell ⟨w.heap.size, 1, none⟩ (.int .i64 s.t)).setCell ⟨w.heap.size, 2, none⟩ (.slice t1 s.m t2)).setCell ⟨w.heap.size, 3, none⟩ (.slice q1 s.l q2))) := ⟨s, C, _, _, _, VR, VW, VQ, ca, cc, w.heap.size, rfl, RU.out, (hO.onlyB O5 lw).mono (Nat.le_of_lt lw), hD, EO.keep IE6 (fun g e => O5.block g (EO.ge IE6 g e).2 (fun z => EO.notB4 IE6 RE (by decide) (by have z' : g = w.heap.size := z; rw [← z']; exact e))), ⟨fun g hg => cw g (Nat.le_trans (Nat.le_trans hb6.size O5.size) hg), fun e => EO.notB4 IC.out RB.out (by decide) e, fun g e => cw g (hO.r.ge g e).1, fun g e => cw g (hO.x.ge g e).1, fun g e => cw g (hO.q.ge g e).1, fun i g hi e => cw g (EO.ge (hO.e i hi) g e).1, fun i g hi e => cw g (EO.ge (hO.a i hi) g e).1, fun i g hi e => cw g (EO.ge (hO.f i hi) g e).1⟩⟩
   have B5 : Hid (Below w.heap.size w ((((w6.setCell ⟨w.heap.size, 0, none⟩ (.slice r1 s.n r2)).setCell ⟨w.heap.size, 1, none⟩ (.int .i64 s.t)).setCell ⟨w.heap.size, 2, none⟩ (.slice t1 s.m t2)).setCell ⟨w.heap.size, 3, none⟩ (.slice q1 s.l q2))) := below_res (BW.out.trans (hb6.mono BW.out.size)) (Nat.le_refl _) _ _ _ _
   clear RE IE6 O5 lw cw hO hD hb6 BW RU IC XO SK SZ RB OK
   go_wp2
   exact ret_cTTq (b := w.heap.size) Try.results18 rfl rfl rfl (Box4.loadsv X5.out) ⟨Q5.out, B5.out⟩
end Go.Proofs.Ytedncfcmhaaobaa
namespace Go.Proofs.Ytedncfcmhaaobaa
open Go.ChangeShapes Go.WideShapes Go.ChangeAt Go.RowKit
set_option linter.unusedVariables false
theorem ok_mx {s : Sv} (ok : s.Ok) : s.max 201 := by
 have n7 := ok.1.1.2
 refine ⟨⟨by omega, fun i hi => ?_⟩, ⟨by have := ok.1.2.2.1; omega, fun i hi => ?_⟩, by have := ok.1.2.2.2; omega, fun i hi => ?_⟩
 ·have := ids_le (ok.2.2.1 i hi).2.1; omega
 ·have := ids_le (ok.2.1 i hi).2.2.2.1; omega
 ·have := ids_le (ok.2.2.2 i hi).2.1; omega
theorem mxUp {s : Sv} {x y : Nat} (h : s.max x) (hy : x ≤ y) : s.max y :=
 ⟨⟨Nat.le_trans h.1.1 hy, fun i hi => Nat.le_trans (h.1.2 i hi) hy⟩, ⟨Nat.le_trans h.2.1.1 hy, fun i hi => Nat.le_trans (h.2.1.2 i hi) hy⟩, Nat.le_trans h.2.2.1 hy, fun i hi => Nat.le_trans (h.2.2.2 i hi) hy⟩
theorem svo_zero (w : World) (B : Nat) : SvO w B (sNew 0) (.slice none 0 0) (.slice none 0 0) (.slice none 0 0) (fun _ => .slice none 0 0) (fun _ => .slice none 0 0) (fun _ => .slice none 0 0) ∧ SvD (sNew 0) (fun _ => .slice none 0 0) (fun _ => .slice none 0 0) (fun _ => .slice none 0 0) :=
 ⟨⟨EO.nil _ _ _ _ _, EO.nil _ _ _ _ _, EO.nil _ _ _ _ _, fun i hi => absurd hi (Nat.not_lt_zero i), fun i hi => absurd hi (Nat.not_lt_zero i), fun i hi => absurd hi (Nat.not_lt_zero i)⟩, ⟨fun i j q hi => absurd hi (Nat.not_lt_zero i), fun i j q hi => absurd hi (Nat.not_lt_zero i), fun i j q hi => absurd hi (Nat.not_lt_zero i), fun i j q hi => absurd hi (Nat.not_lt_zero i), fun i j q hi => absurd hi (Nat.not_lt_zero i), fun i j q hi => absurd hi (Nat.not_lt_zero i)⟩⟩
end Go.Proofs.Ytedncfcmhaaobaa
