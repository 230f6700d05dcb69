/-
  Texts of the proof, joined: QuRf.
-/
import Derived.Test.YtedncfcmhaaobaaY47
import Derived.Test.YtedncfcmhaaobaaY46
import Derived.Test.YtedncfcmhaaobaaY51
namespace Go.Proofs.Ytedncfcmhaaobaa
open Go.ChangeShapes Go.WideShapes Go.ChangeAt Go.RowKit
set_option linter.unusedVariables false
def RunIs (n : Int) (m : Nat) (R : Nat → Qa) (s' : Sv) (m' : Nat) (C : Nat → Int) (c : Int) : Prop :=
 (4096 < m ∧ s' = sNew 0 ∧ m' = 0 ∧ c = 2) ∨ (m ≤ 4096 ∧ ¬ (1 ≤ n ∧ n ≤ 7) ∧ s' = sNew 0 ∧ m' = 0 ∧ c = 4) ∨ (m ≤ 4096 ∧ (1 ≤ n ∧ n ≤ 7) ∧ 200 < m ∧ s' = sNew 0 ∧ m' = 0 ∧ c = 6) ∨ (m ≤ 200 ∧ (1 ≤ n ∧ n ≤ 7) ∧ RunQ R (sNew n.toNat) C m s' ∧ m' = m ∧ c = 0)
theorem RunIs.uniq {n : Int} {m m1 m2 : Nat} {R : Nat → Qa} {s1 s2 : Sv} {C D : Nat → Int} {c1 c2 : Int} (h : RunIs n m R s1 m1 C c1) (g : RunIs n m R s2 m2 D c2) : s1 = s2 ∧ m1 = m2 ∧ c1 = c2 ∧ ∀ i, i < m1 → C i = D i := by
 rcases h with ⟨a, rfl, rfl, rfl⟩ | ⟨a, b, rfl, rfl, rfl⟩ | ⟨a, b, d, rfl, rfl, rfl⟩ | ⟨a, b, d, rfl, rfl⟩ <;> rcases g with ⟨a', rfl, rfl, rfl⟩ | ⟨a', b', rfl, rfl, rfl⟩ | ⟨a', b', d', rfl, rfl, rfl⟩ | ⟨a', b', d', rfl, rfl⟩
 all_goals first | exact ⟨rfl, rfl, rfl, fun i hi => absurd hi (Nat.not_lt_zero i)⟩ | exact absurd b b' | exact absurd b' b | (exfalso; omega) | skip
 obtain ⟨e1, e2⟩ := d.uniq d' (fun _ _ => rfl)
 exact ⟨e1, rfl, rfl, e2⟩
theorem RunIs.mx {n : Int} {m m' : Nat} {R : Nat → Qa} {s' : Sv} {C : Nat → Int} {c : Int} (h : RunIs n m R s' m' C c) : s'.max 300 ∧ m' ≤ 200 := by
 have z : (sNew 0).max 300 := ⟨⟨Nat.zero_le _, fun i hi => absurd hi (Nat.not_lt_zero i)⟩, ⟨Nat.zero_le _, fun i hi => absurd hi (Nat.not_lt_zero i)⟩, Nat.zero_le _, fun i hi => absurd hi (Nat.not_lt_zero i)⟩
 rcases h with ⟨a, rfl, rfl, rfl⟩ | ⟨a, b, rfl, rfl, rfl⟩ | ⟨a, b, d, rfl, rfl, rfl⟩ | ⟨a, b, d, rfl, rfl⟩
 ·exact ⟨z, Nat.zero_le _⟩
 ·exact ⟨z, Nat.zero_le _⟩
 ·exact ⟨z, Nat.zero_le _⟩
 ·exact ⟨mxUp (ok_mx (RunQ.ok (sNew_ok (by omega)) d).1) (by omega), a⟩
def ApC (v : Value) (s : Sv) (VR VW VQ : Nat → Value) : Prop := ∀ g, v.ownBlock = some g → (∀ i, i < s.n → (VR i).ownBlock ≠ some g) ∧ (∀ i, i < s.m → (VW i).ownBlock ≠ some g) ∧ ∀ i, i < s.l → (VQ i).ownBlock ≠ some g
def RetRx (B : Nat) (n : Int) (m : Nat) (R : Nat → Qa) (e : Ending) (w : World) : Prop := ∃ (s' : Sv) (m' : Nat) (C : Nat → Int) (c : Int) (p : Sa) (VR VW VQ : Nat → Value) (ca : Option Addr) (cc : Nat), e = .returned (.tuple #[.agg #[.slice p.a s'.n p.ca, .int .i64 s'.t, .slice p.b s'.m p.cb, .slice p.d s'.l p.cd], .slice ca m' cc, .int .i64 c]) ∧ RunIs n m R s' m' C c ∧ OwP w B s' p VR VW VQ ∧ IE w B (.slice ca m' cc) m' C ∧ ApC (.slice ca m' cc) s' VR VW VQ
theorem RetRn.x {B n m : Nat} {R : Nat → Qa} {e : Ending} {w : World} (h : RetRn B n m R e w) (hm : m ≤ 200) (hn : 1 ≤ n ∧ n ≤ 7) : RetRx B n m R e w := by
 obtain ⟨s', C, vr, vw, vq, VR, VW, VQ, ca, cc, sb, rfl, hr, ho, hd, hi, hnb⟩ := h
 obtain ⟨p, rfl, rfl, rfl, hv, _⟩ := ho.vz
 exact ⟨s', m, C, 0, p, VR, VW, VQ, ca, cc, rfl, .inr (.inr (.inr ⟨hm, by omega, hr, rfl, rfl⟩)), ⟨ho, hd, hv⟩, hi, fun g e => ⟨fun i hi e2 => hnb.e i g hi e2 e, fun i hi e2 => hnb.a i g hi e2 e, fun i hi e2 => hnb.f i g hi e2 e⟩⟩
theorem retRx_no {B : Nat} {n : Int} {m : Nat} {R : Nat → Qa} {w : World} {c : Int} {ca : Option Addr} {cc : Nat} (h : RunIs n m R (sNew 0) 0 (fun _ => 0) c) (hi : IE w B (.slice ca 0 cc) 0 (fun _ => 0)) : RetRx B n m R (.returned (.tuple #[.agg #[.slice none 0 0, .int .i64 0, .slice none 0 0, .slice none 0 0], .slice ca 0 cc, .int .i64 c])) w :=
 ⟨sNew 0, 0, _, c, ⟨none, none, none, fun _ => none, fun _ => none, fun _ => none, fun _ => 0, fun _ => 0, fun _ => 0, 0, 0, 0⟩, _, _, _, ca, cc, rfl, h, ⟨(svo_zero w B).1, (svo_zero w B).2, fun w' _ => ⟨⟨fun i hi => absurd hi (Nat.not_lt_zero i), fun i hi => absurd hi (Nat.not_lt_zero i)⟩, ⟨fun i hi => absurd hi (Nat.not_lt_zero i), fun i hi => absurd hi (Nat.not_lt_zero i)⟩, fun i hi => absurd hi (Nat.not_lt_zero i), fun i hi => absurd hi (Nat.not_lt_zero i)⟩⟩, hi, fun g e => ⟨fun i hi => absurd hi (Nat.not_lt_zero i), fun i hi => absurd hi (Nat.not_lt_zero i), fun i hi => absurd hi (Nat.not_lt_zero i)⟩⟩
set_option maxRecDepth 100000 in
set_option maxHeartbeats 4000000 in
theorem implRun_x (n : Int) (aa : Option Addr) (m ac : Nat) (R : Nat → Qa) (w : World) (h : Els w 3 aa m (quF R)) :
  Calls Try.prog 7 #[.int .i64 n, .slice aa m ac] w fun e w' => RetRx w.heap.size n m R e w' ∧ Below w.heap.size w w' := by
 have R0 : Hid (Box4 (w.alloc (.cells #[.slice none 0 0, .int .i64 0, .slice none 0 0, .slice none 0 0] 28)) w.heap.size 28 (.slice none 0 0) (.int .i64 0) (.slice none 0 0) (.slice none 0 0)) := Box4.madeAt rfl _ _ _ _ _
 have B0 : Hid (Below w.heap.size w (w.alloc (.cells #[.slice none 0 0, .int .i64 0, .slice none 0 0, .slice none 0 0] 28))) := (Below.refl _ _).alloc (Nat.le_refl _) _
 by_cases m1 : 4096 < m
 ·have m1' : (4096 : Int) < (m : Int) := by omega
  have RI : Hid (RunIs n m R (sNew 0) 0 (fun _ => 0) 2) := .inl ⟨m1, rfl, rfl, rfl⟩
  clear h m1
  go_enter Try.func7, Try.ntmps7
  go_upto_region 1 with fail
  generalize (w.alloc (.cells #[.slice none 0 0, .int .i64 0, .slice none 0 0, .slice none 0 0] 28)) = v at *
  have y0 := R0.out.c0
  have f0 := R0.out.fr 0
  have y1 := R0.out.c1
  have f1 := R0.out.fr 1
  have y2 := R0.out.c2
  have f2 := R0.out.fr 2
  have y3 := R0.out.c3
  have f3 := R0.out.fr 3
  have X9 : Hid (Box4 ((((v.setCell ⟨w.heap.size, 0, none⟩ (.slice none 0 0)).setCell ⟨w.heap.size, 1, none⟩ (.int .i64 0)).setCell ⟨w.heap.size, 2, none⟩ (.slice none 0 0)).setCell ⟨w.heap.size, 3, none⟩ (.slice none 0 0)) w.heap.size 28 (.slice none 0 0) (.int .i64 0) (.slice none 0 0) (.slice none 0 0)) := (((R0.out.set0 _).set1 _).set2 _).set3 _
  have B9 : Hid (Below w.heap.size w ((((v.setCell ⟨w.heap.size, 0, none⟩ (.slice none 0 0)).setCell ⟨w.heap.size, 1, none⟩ (.int .i64 0)).setCell ⟨w.heap.size, 2, none⟩ (.slice none 0 0)).setCell ⟨w.heap.size, 3, none⟩ (.slice none 0 0))) := below_res B0.out (Nat.le_refl _) _ _ _ _
  have Q9 : Hid (RetRx w.heap.size n m R (.returned (.tuple #[.agg #[.slice none 0 0, .int .i64 0, .slice none 0 0, .slice none 0 0], .slice none 0 0, .int .i64 2])) ((((v.setCell ⟨w.heap.size, 0, none⟩ (.slice none 0 0)).setCell ⟨w.heap.size, 1, none⟩ (.int .i64 0)).setCell ⟨w.heap.size, 2, none⟩ (.slice none 0 0)).setCell ⟨w.heap.size, 3, none⟩ (.slice none 0 0))) := retRx_no RI.out (EO.nil _ _ _ _ _)
  go_wp2
  exact ret_cTTq (b := w.heap.size) Try.results7 rfl rfl rfl (Box4.loadsv X9.out) ⟨Q9.out, B9.out⟩
 have m1' : ¬ (4096 : Int) < (m : Int) := by omega
 by_cases hn : 1 ≤ n ∧ n ≤ 7
 ·by_cases m2 : 200 < m
  ·have m2' : (200 : Int) < (m : Int) := by omega
   have RI : Hid (RunIs n m R (sNew 0) 0 (fun _ => 0) 6) := .inr (.inr (.inl ⟨by omega, hn, m2, rfl, rfl, rfl⟩))
   obtain ⟨N, rfl⟩ : ∃ N : Nat, n = N := ⟨n.toNat, by omega⟩
   have NS : Hid (∀ u : World, Calls Try.prog 25 #[.int .i64 (N : Int)] u fun e w' => RetNo N u.heap.size e w' ∧ Below u.heap.size u w') := fun u => implNs_own N (by omega) u
   clear h m1 m2 hn
   go_enter Try.func7, Try.ntmps7
   go_wp2_with fail
   generalize (w.alloc (.cells #[.slice none 0 0, .int .i64 0, .slice none 0 0, .slice none 0 0] 28)) = v at *
   refine (NS.out _).mono ?_
   rintro e v1 ⟨⟨g, rfl, hE⟩, hb⟩
   clear hE
   replace R0 : Hid (Box4 v1 w.heap.size 28 (.slice none 0 0) (.int .i64 0) (.slice none 0 0) (.slice none 0 0)) := R0.out.below hb
   replace B0 : Hid (Below w.heap.size w v1) := B0.out.trans (hb.mono B0.out.size)
   have hA2 : Below v1.heap.size v1 (v1.alloc (.cells #[.slice (some ⟨g, 0, none⟩) N N, .int .i64 0, .slice none 0 0, .slice none 0 0] 28)) := (Below.refl _ _).alloc (Nat.le_refl _) _
   replace R0 : Hid (Box4 (v1.alloc (.cells #[.slice (some ⟨g, 0, none⟩) N N, .int .i64 0, .slice none 0 0, .slice none 0 0] 28)) w.heap.size 28 (.slice none 0 0) (.int .i64 0) (.slice none 0 0) (.slice none 0 0)) := R0.out.below hA2
   replace B0 : Hid (Below w.heap.size w (v1.alloc (.cells #[.slice (some ⟨g, 0, none⟩) N N, .int .i64 0, .slice none 0 0, .slice none 0 0] 28))) := B0.out.trans (hA2.mono B0.out.size)
   clear hb hA2 NS
   go_upto_region 4 with fail
   generalize (v1.alloc (.cells #[.slice (some ⟨g, 0, none⟩) N N, .int .i64 0, .slice none 0 0, .slice none 0 0] 28)) = v2 at *
   have y0 := R0.out.c0
   have f0 := R0.out.fr 0
   have y1 := R0.out.c1
   have f1 := R0.out.fr 1
   have y2 := R0.out.c2
   have f2 := R0.out.fr 2
   have y3 := R0.out.c3
   have f3 := R0.out.fr 3
   have X9 : Hid (Box4 ((((v2.setCell ⟨w.heap.size, 0, none⟩ (.slice none 0 0)).setCell ⟨w.heap.size, 1, none⟩ (.int .i64 0)).setCell ⟨w.heap.size, 2, none⟩ (.slice none 0 0)).setCell ⟨w.heap.size, 3, none⟩ (.slice none 0 0)) w.heap.size 28 (.slice none 0 0) (.int .i64 0) (.slice none 0 0) (.slice none 0 0)) := (((R0.out.set0 _).set1 _).set2 _).set3 _
   have B9 : Hid (Below w.heap.size w ((((v2.setCell ⟨w.heap.size, 0, none⟩ (.slice none 0 0)).setCell ⟨w.heap.size, 1, none⟩ (.int .i64 0)).setCell ⟨w.heap.size, 2, none⟩ (.slice none 0 0)).setCell ⟨w.heap.size, 3, none⟩ (.slice none 0 0))) := below_res B0.out (Nat.le_refl _) _ _ _ _
   have Q9 : Hid (RetRx w.heap.size (N : Int) m R (.returned (.tuple #[.agg #[.slice none 0 0, .int .i64 0, .slice none 0 0, .slice none 0 0], .slice none 0 0, .int .i64 6])) ((((v2.setCell ⟨w.heap.size, 0, none⟩ (.slice none 0 0)).setCell ⟨w.heap.size, 1, none⟩ (.int .i64 0)).setCell ⟨w.heap.size, 2, none⟩ (.slice none 0 0)).setCell ⟨w.heap.size, 3, none⟩ (.slice none 0 0))) := retRx_no RI.out (EO.nil _ _ _ _ _)
   go_wp2
   exact ret_cTTq (b := w.heap.size) Try.results7 rfl rfl rfl (Box4.loadsv X9.out) ⟨Q9.out, B9.out⟩
  ·obtain ⟨N, rfl⟩ : ∃ N : Nat, n = N := ⟨n.toNat, by omega⟩
   exact (implRun_q N aa m ac R (by omega) (by omega) w h).mono fun e w' q => ⟨q.1.x (by omega) (by omega), q.2⟩
 ·have RI : Hid (RunIs n m R (sNew 0) 0 (fun _ => 0) 4) := .inr (.inl ⟨by omega, hn, rfl, rfl, rfl⟩)
  have NS : Hid (∀ u : World, Calls Try.prog 25 #[.int .i64 n] u fun e w' => e = .returned (.tuple #[.agg #[.slice none 0 0, .int .i64 0, .slice none 0 0, .slice none 0 0], .int .i64 4]) ∧ Below u.heap.size u w') := fun u => implNs_no n hn u
  clear h m1 hn
  go_enter Try.func7, Try.ntmps7
  go_wp2_with fail
  generalize (w.alloc (.cells #[.slice none 0 0, .int .i64 0, .slice none 0 0, .slice none 0 0] 28)) = v at *
  refine (NS.out _).mono ?_
  rintro e v1 ⟨rfl, hb⟩
  have hA2 : Below v1.heap.size v1 (v1.alloc (.cells #[.slice none 0 0, .int .i64 0, .slice none 0 0, .slice none 0 0] 28)) := (Below.refl _ _).alloc (Nat.le_refl _) _
  replace R0 : Hid (Box4 (v1.alloc (.cells #[.slice none 0 0, .int .i64 0, .slice none 0 0, .slice none 0 0] 28)) w.heap.size 28 (.slice none 0 0) (.int .i64 0) (.slice none 0 0) (.slice none 0 0)) := (R0.out.below hb).below hA2
  replace B0 : Hid (Below w.heap.size w (v1.alloc (.cells #[.slice none 0 0, .int .i64 0, .slice none 0 0, .slice none 0 0] 28))) := (B0.out.trans (hb.mono B0.out.size)).trans (hA2.mono (Nat.le_trans B0.out.size hb.size))
  clear hb hA2 NS
  go_upto_region 4 with fail
  generalize (v1.alloc (.cells #[.slice none 0 0, .int .i64 0, .slice none 0 0, .slice none 0 0] 28)) = v2 at *
  have y0 := R0.out.c0
  have f0 := R0.out.fr 0
  have y1 := R0.out.c1
  have f1 := R0.out.fr 1
  have y2 := R0.out.c2
  have f2 := R0.out.fr 2
  have y3 := R0.out.c3
  have f3 := R0.out.fr 3
  have X9 : Hid (Box4 ((((v2.setCell ⟨w.heap.size, 0, none⟩ (.slice none 0 0)).setCell ⟨w.heap.size, 1, none⟩ (.int .i64 0)).setCell ⟨w.heap.size, 2, none⟩ (.slice none 0 0)).setCell ⟨w.heap.size, 3, none⟩ (.slice none 0 0)) w.heap.size 28 (.slice none 0 0) (.int .i64 0) (.slice none 0 0) (.slice none 0 0)) := (((R0.out.set0 _).set1 _).set2 _).set3 _
  have B9 : Hid (Below w.heap.size w ((((v2.setCell ⟨w.heap.size, 0, none⟩ (.slice none 0 0)).setCell ⟨w.heap.size, 1, none⟩ (.int .i64 0)).setCell ⟨w.heap.size, 2, none⟩ (.slice none 0 0)).setCell ⟨w.heap.size, 3, none⟩ (.slice none 0 0))) := below_res B0.out (Nat.le_refl _) _ _ _ _
  have Q9 : Hid (RetRx w.heap.size n m R (.returned (.tuple #[.agg #[.slice none 0 0, .int .i64 0, .slice none 0 0, .slice none 0 0], .slice none 0 0, .int .i64 4])) ((((v2.setCell ⟨w.heap.size, 0, none⟩ (.slice none 0 0)).setCell ⟨w.heap.size, 1, none⟩ (.int .i64 0)).setCell ⟨w.heap.size, 2, none⟩ (.slice none 0 0)).setCell ⟨w.heap.size, 3, none⟩ (.slice none 0 0))) := retRx_no RI.out (EO.nil _ _ _ _ _)
  go_wp2
  exact ret_cTTq (b := w.heap.size) Try.results7 rfl rfl rfl (Box4.loadsv X9.out) ⟨Q9.out, B9.out⟩
set_option maxRecDepth 100000 in
set_option maxHeartbeats 4000000 in
theorem specRun_x (n : Int) (aa : Option Addr) (m ac : Nat) (R : Nat → Qa) (w : World) (h : Els w 3 aa m (quF R)) :
  Calls Try.prog 18 #[.int .i64 n, .slice aa m ac] w fun e w' => RetRx w.heap.size n m R e w' ∧ Below w.heap.size w w' := by
 have R0 : Hid (Box4 (w.alloc (.cells #[.slice none 0 0, .int .i64 0, .slice none 0 0, .slice none 0 0] 28)) w.heap.size 28 (.slice none 0 0) (.int .i64 0) (.slice none 0 0) (.slice none 0 0)) := Box4.madeAt rfl _ _ _ _ _
 have B0 : Hid (Below w.heap.size w (w.alloc (.cells #[.slice none 0 0, .int .i64 0, .slice none 0 0, .slice none 0 0] 28))) := (Below.refl _ _).alloc (Nat.le_refl _) _
 by_cases m1 : 4096 < m
 ·have m1' : (4096 : Int) < (m : Int) := by omega
  have RI : Hid (RunIs n m R (sNew 0) 0 (fun _ => 0) 2) := .inl ⟨m1, rfl, rfl, rfl⟩
  clear h m1
  go_enter Try.func18, Try.ntmps18
  go_upto_region 1 with fail
  generalize (w.alloc (.cells #[.slice none 0 0, .int .i64 0, .slice none 0 0, .slice none 0 0] 28)) = v at *
  have hA : Below v.heap.size v (v.alloc (.cells #[] 3)) := (Below.refl _ _).alloc (Nat.le_refl _) _
  have LI : Hid (IE (v.alloc (.cells #[] 3)) w.heap.size (.slice (some ⟨v.heap.size, 0, none⟩) 0 0) 0 (fun _ => 0)) := IE.lit v w.heap.size B0.out.size _
  replace R0 : Hid (Box4 (v.alloc (.cells #[] 3)) w.heap.size 28 (.slice none 0 0) (.int .i64 0) (.slice none 0 0) (.slice none 0 0)) := R0.out.below hA
  replace B0 : Hid (Below w.heap.size w (v.alloc (.cells #[] 3))) := B0.out.trans (hA.mono B0.out.size)
  have y0 := R0.out.c0
  have f0 := R0.out.fr 0
  have y1 := R0.out.c1
  have f1 := R0.out.fr 1
  have y2 := R0.out.c2
  have f2 := R0.out.fr 2
  have y3 := R0.out.c3
  have f3 := R0.out.fr 3
  have X9 : Hid (Box4 (((((v.alloc (.cells #[] 3)).setCell ⟨w.heap.size, 0, none⟩ (.slice none 0 0)).setCell ⟨w.heap.size, 1, none⟩ (.int .i64 0)).setCell ⟨w.heap.size, 2, none⟩ (.slice none 0 0)).setCell ⟨w.heap.size, 3, none⟩ (.slice none 0 0)) w.heap.size 28 (.slice none 0 0) (.int .i64 0) (.slice none 0 0) (.slice none 0 0)) := (((R0.out.set0 _).set1 _).set2 _).set3 _
  have B9 : Hid (Below w.heap.size w (((((v.alloc (.cells #[] 3)).setCell ⟨w.heap.size, 0, none⟩ (.slice none 0 0)).setCell ⟨w.heap.size, 1, none⟩ (.int .i64 0)).setCell ⟨w.heap.size, 2, none⟩ (.slice none 0 0)).setCell ⟨w.heap.size, 3, none⟩ (.slice none 0 0))) := below_res B0.out (Nat.le_refl _) _ _ _ _
  have I9 : IE (((((v.alloc (.cells #[] 3)).setCell ⟨w.heap.size, 0, none⟩ (.slice none 0 0)).setCell ⟨w.heap.size, 1, none⟩ (.int .i64 0)).setCell ⟨w.heap.size, 2, none⟩ (.slice none 0 0)).setCell ⟨w.heap.size, 3, none⟩ (.slice none 0 0)) w.heap.size (.slice (some ⟨v.heap.size, 0, none⟩) 0 0) 0 (fun _ => 0) := EO.keep LI.out (fun g e => by
   have hg : g ≠ w.heap.size := fun z => EO.notB4 LI.out R0.out (by decide) (z ▸ e)
   exact (Below.heap_setCell _ ⟨w.heap.size, 3, none⟩ _ g hg).trans ((Below.heap_setCell _ ⟨w.heap.size, 2, none⟩ _ g hg).trans ((Below.heap_setCell _ ⟨w.heap.size, 1, none⟩ _ g hg).trans (Below.heap_setCell _ ⟨w.heap.size, 0, none⟩ _ g hg))))
  have Q9 : Hid (RetRx w.heap.size n m R (.returned (.tuple #[.agg #[.slice none 0 0, .int .i64 0, .slice none 0 0, .slice none 0 0], .slice (some ⟨v.heap.size, 0, none⟩) 0 0, .int .i64 2])) (((((v.alloc (.cells #[] 3)).setCell ⟨w.heap.size, 0, none⟩ (.slice none 0 0)).setCell ⟨w.heap.size, 1, none⟩ (.int .i64 0)).setCell ⟨w.heap.size, 2, none⟩ (.slice none 0 0)).setCell ⟨w.heap.size, 3, none⟩ (.slice none 0 0))) := retRx_no RI.out I9
  clear I9 hA
  go_wp2
  exact ret_cTTq (b := w.heap.size) Try.results18 rfl rfl rfl (Box4.loadsv X9.out) ⟨Q9.out, B9.out⟩
 have m1' : ¬ (4096 : Int) < (m : Int) := by omega
 by_cases hn : 1 ≤ n ∧ n ≤ 7
 ·by_cases m2 : 200 < m
  ·have m2' : (200 : Int) < (m : Int) := by omega
   have RI : Hid (RunIs n m R (sNew 0) 0 (fun _ => 0) 6) := .inr (.inr (.inl ⟨by omega, hn, m2, rfl, rfl, rfl⟩))
   obtain ⟨N, rfl⟩ : ∃ N : Nat, n = N := ⟨n.toNat, by omega⟩
   have NS : Hid (∀ u : World, Calls Try.prog 49 #[.int .i64 (N : Int)] u fun e w' => RetNs N u.heap.size e w' ∧ Below u.heap.size u w') := fun u => specNs_yes N (by omega) u
   clear h m1 m2 hn
   go_enter Try.func18, Try.ntmps18
   go_wp2_with fail
   generalize (w.alloc (.cells #[.slice none 0 0, .int .i64 0, .slice none 0 0, .slice none 0 0] 28)) = v at *
   refine (NS.out _).mono ?_
   rintro e v1 ⟨⟨g, c0, V, vw, vr, rfl, hg0, hg1, hrow, hV, ⟨aw, rfl⟩, ⟨ar, rfl⟩⟩, hb⟩
   clear hg0 hg1 hrow hV
   replace R0 : Hid (Box4 v1 w.heap.size 28 (.slice none 0 0) (.int .i64 0) (.slice none 0 0) (.slice none 0 0)) := R0.out.below hb
   replace B0 : Hid (Below w.heap.size w v1) := B0.out.trans (hb.mono B0.out.size)
   have hA2 : Below v1.heap.size v1 (v1.alloc (.cells #[.slice (some ⟨g, 0, none⟩) N c0, .int .i64 0, .slice aw 0 0, .slice ar 0 0] 28)) := (Below.refl _ _).alloc (Nat.le_refl _) _
   replace R0 : Hid (Box4 (v1.alloc (.cells #[.slice (some ⟨g, 0, none⟩) N c0, .int .i64 0, .slice aw 0 0, .slice ar 0 0] 28)) w.heap.size 28 (.slice none 0 0) (.int .i64 0) (.slice none 0 0) (.slice none 0 0)) := R0.out.below hA2
   replace B0 : Hid (Below w.heap.size w (v1.alloc (.cells #[.slice (some ⟨g, 0, none⟩) N c0, .int .i64 0, .slice aw 0 0, .slice ar 0 0] 28))) := B0.out.trans (hA2.mono B0.out.size)
   clear hb hA2 NS
   go_upto_region 4 with fail
   generalize (v1.alloc (.cells #[.slice (some ⟨g, 0, none⟩) N c0, .int .i64 0, .slice aw 0 0, .slice ar 0 0] 28)) = v2 at *
   have hA : Below v2.heap.size v2 (v2.alloc (.cells #[] 3)) := (Below.refl _ _).alloc (Nat.le_refl _) _
   have LI : Hid (IE (v2.alloc (.cells #[] 3)) w.heap.size (.slice (some ⟨v2.heap.size, 0, none⟩) 0 0) 0 (fun _ => 0)) := IE.lit v2 w.heap.size B0.out.size _
   replace R0 : Hid (Box4 (v2.alloc (.cells #[] 3)) w.heap.size 28 (.slice none 0 0) (.int .i64 0) (.slice none 0 0) (.slice none 0 0)) := R0.out.below hA
   replace B0 : Hid (Below w.heap.size w (v2.alloc (.cells #[] 3))) := B0.out.trans (hA.mono B0.out.size)
   have y0 := R0.out.c0
   have f0 := R0.out.fr 0
   have y1 := R0.out.c1
   have f1 := R0.out.fr 1
   have y2 := R0.out.c2
   have f2 := R0.out.fr 2
   have y3 := R0.out.c3
   have f3 := R0.out.fr 3
   have X9 : Hid (Box4 (((((v2.alloc (.cells #[] 3)).setCell ⟨w.heap.size, 0, none⟩ (.slice none 0 0)).setCell ⟨w.heap.size, 1, none⟩ (.int .i64 0)).setCell ⟨w.heap.size, 2, none⟩ (.slice none 0 0)).setCell ⟨w.heap.size, 3, none⟩ (.slice none 0 0)) w.heap.size 28 (.slice none 0 0) (.int .i64 0) (.slice none 0 0) (.slice none 0 0)) := (((R0.out.set0 _).set1 _).set2 _).set3 _
   have B9 : Hid (Below w.heap.size w (((((v2.alloc (.cells #[] 3)).setCell ⟨w.heap.size, 0, none⟩ (.slice none 0 0)).setCell ⟨w.heap.size, 1, none⟩ (.int .i64 0)).setCell ⟨w.heap.size, 2, none⟩ (.slice none 0 0)).setCell ⟨w.heap.size, 3, none⟩ (.slice none 0 0))) := below_res B0.out (Nat.le_refl _) _ _ _ _
   have I9 : IE (((((v2.alloc (.cells #[] 3)).setCell ⟨w.heap.size, 0, none⟩ (.slice none 0 0)).setCell ⟨w.heap.size, 1, none⟩ (.int .i64 0)).setCell ⟨w.heap.size, 2, none⟩ (.slice none 0 0)).setCell ⟨w.heap.size, 3, none⟩ (.slice none 0 0)) w.heap.size (.slice (some ⟨v2.heap.size, 0, none⟩) 0 0) 0 (fun _ => 0) := EO.keep LI.out (fun g e => by
    have hg : g ≠ w.heap.size := fun z => EO.notB4 LI.out R0.out (by decide) (z ▸ e)
    exact (Below.heap_setCell _ ⟨w.heap.size, 3, none⟩ _ g hg).trans ((Below.heap_setCell _ ⟨w.heap.size, 2, none⟩ _ g hg).trans ((Below.heap_setCell _ ⟨w.heap.size, 1, none⟩ _ g hg).trans (Below.heap_setCell _ ⟨w.heap.size, 0, none⟩ _ g hg))))
   have Q9 : Hid (RetRx w.heap.size (N : Int) m R (.returned (.tuple #[.agg #[.slice none 0 0, .int .i64 0, .slice none 0 0, .slice none 0 0], .slice (some ⟨v2.heap.size, 0, none⟩) 0 0, .int .i64 6])) (((((v2.alloc (.cells #[] 3)).setCell ⟨w.heap.size, 0, none⟩ (.slice none 0 0)).setCell ⟨w.heap.size, 1, none⟩ (.int .i64 0)).setCell ⟨w.heap.size, 2, none⟩ (.slice none 0 0)).setCell ⟨w.heap.size, 3, none⟩ (.slice none 0 0))) := retRx_no RI.out I9
   clear I9 hA
   go_wp2
   exact ret_cTTq (b := w.heap.size) Try.results18 rfl rfl rfl (Box4.loadsv X9.out) ⟨Q9.out, B9.out⟩
  ·obtain ⟨N, rfl⟩ : ∃ N : Nat, n = N := ⟨n.toNat, by omega⟩
   exact (specRun_q N aa m ac R (by omega) (by omega) w h).mono fun e w' q => ⟨q.1.x (by omega) (by omega), q.2⟩
 ·have RI : Hid (RunIs n m R (sNew 0) 0 (fun _ => 0) 4) := .inr (.inl ⟨by omega, hn, rfl, rfl, rfl⟩)
  have NS : Hid (∀ u : World, Calls Try.prog 49 #[.int .i64 n] u fun e w' => e = .returned (.tuple #[.agg #[.slice none 0 0, .int .i64 0, .slice none 0 0, .slice none 0 0], .int .i64 4]) ∧ Below u.heap.size u w') := fun u => specNs_no n hn u
  clear h m1 hn
  go_enter Try.func18, Try.ntmps18
  go_wp2_with fail
  generalize (w.alloc (.cells #[.slice none 0 0, .int .i64 0, .slice none 0 0, .slice none 0 0] 28)) = v at *
  refine (NS.out _).mono ?_
  rintro e v1 ⟨rfl, hb⟩
  have hA2 : Below v1.heap.size v1 (v1.alloc (.cells #[.slice none 0 0, .int .i64 0, .slice none 0 0, .slice none 0 0] 28)) := (Below.refl _ _).alloc (Nat.le_refl _) _
  replace R0 : Hid (Box4 (v1.alloc (.cells #[.slice none 0 0, .int .i64 0, .slice none 0 0, .slice none 0 0] 28)) w.heap.size 28 (.slice none 0 0) (.int .i64 0) (.slice none 0 0) (.slice none 0 0)) := (R0.out.below hb).below hA2
  replace B0 : Hid (Below w.heap.size w (v1.alloc (.cells #[.slice none 0 0, .int .i64 0, .slice none 0 0, .slice none 0 0] 28))) := (B0.out.trans (hb.mono B0.out.size)).trans (hA2.mono (Nat.le_trans B0.out.size hb.size))
  clear hb hA2 NS
  go_upto_region 4 with fail
  generalize (v1.alloc (.cells #[.slice none 0 0, .int .i64 0, .slice none 0 0, .slice none 0 0] 28)) = v2 at *
  have hA : Below v2.heap.size v2 (v2.alloc (.cells #[] 3)) := (Below.refl _ _).alloc (Nat.le_refl _) _
  have LI : Hid (IE (v2.alloc (.cells #[] 3)) w.heap.size (.slice (some ⟨v2.heap.size, 0, none⟩) 0 0) 0 (fun _ => 0)) := IE.lit v2 w.heap.size B0.out.size _
  replace R0 : Hid (Box4 (v2.alloc (.cells #[] 3)) w.heap.size 28 (.slice none 0 0) (.int .i64 0) (.slice none 0 0) (.slice none 0 0)) := R0.out.below hA
  replace B0 : Hid (Below w.heap.size w (v2.alloc (.cells #[] 3))) := B0.out.trans (hA.mono B0.out.size)
  have y0 := R0.out.c0
  have f0 := R0.out.fr 0
  have y1 := R0.out.c1
  have f1 := R0.out.fr 1
  have y2 := R0.out.c2
  have f2 := R0.out.fr 2
  have y3 := R0.out.c3
  have f3 := R0.out.fr 3
  have X9 : Hid (Box4 (((((v2.alloc (.cells #[] 3)).setCell ⟨w.heap.size, 0, none⟩ (.slice none 0 0)).setCell ⟨w.heap.size, 1, none⟩ (.int .i64 0)).setCell ⟨w.heap.size, 2, none⟩ (.slice none 0 0)).setCell ⟨w.heap.size, 3, none⟩ (.slice none 0 0)) w.heap.size 28 (.slice none 0 0) (.int .i64 0) (.slice none 0 0) (.slice none 0 0)) := (((R0.out.set0 _).set1 _).set2 _).set3 _
  have B9 : Hid (Below w.heap.size w (((((v2.alloc (.cells #[] 3)).setCell ⟨w.heap.size, 0, none⟩ (.slice none 0 0)).setCell ⟨w.heap.size, 1, none⟩ (.int .i64 0)).setCell ⟨w.heap.size, 2, none⟩ (.slice none 0 0)).setCell ⟨w.heap.size, 3, none⟩ (.slice none 0 0))) := below_res B0.out (Nat.le_refl _) _ _ _ _
  have I9 : IE (((((v2.alloc (.cells #[] 3)).setCell ⟨w.heap.size, 0, none⟩ (.slice none 0 0)).setCell ⟨w.heap.size, 1, none⟩ (.int .i64 0)).setCell ⟨w.heap.size, 2, none⟩ (.slice none 0 0)).setCell ⟨w.heap.size, 3, none⟩ (.slice none 0 0)) w.heap.size (.slice (some ⟨v2.heap.size, 0, none⟩) 0 0) 0 (fun _ => 0) := EO.keep LI.out (fun g e => by
   have hg : g ≠ w.heap.size := fun z => EO.notB4 LI.out R0.out (by decide) (z ▸ e)
   exact (Below.heap_setCell _ ⟨w.heap.size, 3, none⟩ _ g hg).trans ((Below.heap_setCell _ ⟨w.heap.size, 2, none⟩ _ g hg).trans ((Below.heap_setCell _ ⟨w.heap.size, 1, none⟩ _ g hg).trans (Below.heap_setCell _ ⟨w.heap.size, 0, none⟩ _ g hg))))
  have Q9 : Hid (RetRx w.heap.size n m R (.returned (.tuple #[.agg #[.slice none 0 0, .int .i64 0, .slice none 0 0, .slice none 0 0], .slice (some ⟨v2.heap.size, 0, none⟩) 0 0, .int .i64 4])) (((((v2.alloc (.cells #[] 3)).setCell ⟨w.heap.size, 0, none⟩ (.slice none 0 0)).setCell ⟨w.heap.size, 1, none⟩ (.int .i64 0)).setCell ⟨w.heap.size, 2, none⟩ (.slice none 0 0)).setCell ⟨w.heap.size, 3, none⟩ (.slice none 0 0))) := retRx_no RI.out I9
  clear I9 hA
  go_wp2
  exact ret_cTTq (b := w.heap.size) Try.results18 rfl rfl rfl (Box4.loadsv X9.out) ⟨Q9.out, B9.out⟩
end Go.Proofs.Ytedncfcmhaaobaa
