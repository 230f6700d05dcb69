/-
  Texts of the proof, joined: QuPq.
-/
import Derived.Test.YtedncfcmhaaobaaY36
import Derived.Deep.Cut
import Derived.Test.YtedncfcmhaaobaaTkH
namespace Go.Proofs.Ytedncfcmhaaobaa
open Go.ChangeShapes Go.WideShapes Go.ChangeAt Go.RowKit
set_option linter.unusedVariables false
set_option maxRecDepth 100000 in
set_option maxHeartbeats 8000000 in
theorem rep_reply (B : Nat) (s : Sv) (an : Int) (k : Nat) (hk : k < s.n) (ok : s.Ok) (w : World) (hB : B ≤ w.heap.size) (vr vw vq : Value) (VR VW VQ : Nat → Value) (ho : SvO w B s vr vw vq VR VW VQ) (hd : SvD s VR VW VQ) :
  Calls Try.prog 74 #[.agg #[vr, .int .i64 s.t, vw, vq], .agg #[.int .i64 4, .int .i64 (k : Int), .int .i64 an]] w fun e w' => RetR B s ⟨4, k, an⟩ e w' ∧ Below B w w' := by
 obtain ⟨ra, rc, rfl⟩ := ho.r.form
 obtain ⟨wa, wc, rfl⟩ := ho.x.form
 obtain ⟨qa, qc, rfl⟩ := ho.q.form
 have b3 : Below w.heap.size w (((w.alloc (.cells #[.slice ra s.n rc, .int .i64 s.t, .slice wa s.m wc, .slice qa s.l qc] 28)).alloc (.cells #[.int .i64 4, .int .i64 (k : Int), .int .i64 an] 41)).alloc (.cells #[.slice none 0 0, .int .i64 0, .slice none 0 0, .slice none 0 0] 28)) := (((Below.refl w.heap.size w).alloc (Nat.le_refl _) _).alloc (by simp) _).alloc (by simp; omega) _
 have PV : Hid (SvP NA (((w.alloc (.cells #[.slice ra s.n rc, .int .i64 s.t, .slice wa s.m wc, .slice qa s.l qc] 28)).alloc (.cells #[.int .i64 4, .int .i64 (k : Int), .int .i64 an] 41)).alloc (.cells #[.slice none 0 0, .int .i64 0, .slice none 0 0, .slice none 0 0] 28)) B w.heap.size s (.slice ra s.n rc) (.slice wa s.m wc) (.slice qa s.l qc) VR VW VQ) := SvP.made hB (((Box4.madeAt rfl _ _ _ _ _).alloc _).alloc _) (ho.below b3) hd
 have AB : Hid (Box3 (((w.alloc (.cells #[.slice ra s.n rc, .int .i64 s.t, .slice wa s.m wc, .slice qa s.l qc] 28)).alloc (.cells #[.int .i64 4, .int .i64 (k : Int), .int .i64 an] 41)).alloc (.cells #[.slice none 0 0, .int .i64 0, .slice none 0 0, .slice none 0 0] 28)) (w.heap.size + 1) 41 (.int .i64 4) (.int .i64 (k : Int)) (.int .i64 an)) := (Box3.madeAt (by simp) _ _ _ _).alloc _
 have RB : Hid (Box4 (((w.alloc (.cells #[.slice ra s.n rc, .int .i64 s.t, .slice wa s.m wc, .slice qa s.l qc] 28)).alloc (.cells #[.int .i64 4, .int .i64 (k : Int), .int .i64 an] 41)).alloc (.cells #[.slice none 0 0, .int .i64 0, .slice none 0 0, .slice none 0 0] 28)) (w.heap.size + 1 + 1) 28 (.slice none 0 0) (.int .i64 0) (.slice none 0 0) (.slice none 0 0)) := Box4.madeAt (by simp) _ _ _ _ _
 have BV : Hid (B ≤ (((w.alloc (.cells #[.slice ra s.n rc, .int .i64 s.t, .slice wa s.m wc, .slice qa s.l qc] 28)).alloc (.cells #[.int .i64 4, .int .i64 (k : Int), .int .i64 an] 41)).alloc (.cells #[.slice none 0 0, .int .i64 0, .slice none 0 0, .slice none 0 0] 28)).heap.size ∧ Below B w (((w.alloc (.cells #[.slice ra s.n rc, .int .i64 s.t, .slice wa s.m wc, .slice qa s.l qc] 28)).alloc (.cells #[.int .i64 4, .int .i64 (k : Int), .int .i64 an] 41)).alloc (.cells #[.slice none 0 0, .int .i64 0, .slice none 0 0, .slice none 0 0] 28))) := ⟨Nat.le_trans hB b3.size, b3.mono hB⟩
 have SZ : Hid (∀ w : World, Calls Try.prog 95 #[.int .i64 (s.n : Int)] w fun e w' => e = .returned (.int .i64 ((majN s.n : Nat) : Int)) ∧ w = w') := fun w => by
  have h := l09Size_any (s.n : Int) (by have := ok.1.1; omega) w
  rwa [show (s.n : Int) / 2 + 1 = ((majN s.n : Nat) : Int) by unfold majN; omega] at h
 have OK : Hid s.Ok := ok
 have klt : (k : Int) < (s.n : Int) := by omega
 clear b3 ho hd ok
 go_enter Try.func74, Try.ntmps74
 go_upto_region 1 with fail
 generalize (((w.alloc (.cells #[.slice ra s.n rc, .int .i64 s.t, .slice wa s.m wc, .slice qa s.l qc] 28)).alloc (.cells #[.int .i64 4, .int .i64 (k : Int), .int .i64 an] 41)).alloc (.cells #[.slice none 0 0, .int .i64 0, .slice none 0 0, .slice none 0 0] 28)) = v at *
 obtain ⟨ab, hab⟩ : ∃ x, x = w.heap.size + 1 := ⟨_, rfl⟩
 obtain ⟨rb, hrb⟩ : ∃ x, x = w.heap.size + 1 + 1 := ⟨_, rfl⟩
 have DI : Hid (B ≤ w.heap.size ∧ w.heap.size < ab ∧ ab < rb) := ⟨hB, by omega, by omega⟩
 rw [← hrb, ← hab]
 rw [← hab] at AB
 rw [← hrb] at RB
 clear hab hrb hB
 obtain ⟨sb, hsb⟩ : ∃ x, x = w.heap.size := ⟨_, rfl⟩
 have HSB : Hid (sb = w.heap.size) := hsb
 rw [← hsb] at PV DI ⊢
 clear hsb
 obtain ⟨gr, ea, -, -, KR⟩ := RkR.start PV.out.o.r hk
 subst ea
 have KY : Hid (RkR v B gr rc s.n s.R VR k (s.R k) (VR k)) := KR
 clear KR
 have c0 := PV.out.x.c0
 have x0 := AB.out.c0
 have x1 := AB.out.c1
 go_wp2_with fail
 refine (SZ.out _).mono ?_
 rintro e _ ⟨rfl, rfl⟩
 clear SZ
 have m0 : v.cell? ⟨gr, k * 8, none⟩ = some (.bool (s.R k).mute) := KY.out.c hk 0 (by omega)
 have c3 := PV.out.x.c3
 have x2 := AB.out.c2
 obtain ⟨N1, hN1⟩ : ∃ N1 : Int, N1 = (s.l : Int) - 1 := ⟨_, rfl⟩
 have e1 : (s.l : Int) - 1 = N1 := hN1.symm
 have w1 : IntKind.i64.wrap N1 = N1 := IntWalk.i64_in _ (by have : s.l ≤ 200 := OK.out.1.2.2.2; omega)
 have HN1 : Hid (N1 = (s.l : Int) - 1) := hN1
 clear hN1
 by_cases hin : ¬ (0 ≤ an ∧ an ≤ N1)
 ·have IN : Hid (∀ w : World, Calls Try.prog 71 #[.int .i64 an, .int .i64 0, .int .i64 N1] w fun e w' => e = .returned (.bool false) ∧ w = w') := fun w => in_any an 0 N1 false (by simp only [decide_eq_false hin]) w
  have NI : Hid (¬ (0 ≤ an ∧ an < (s.l : Int))) := fun z => hin ⟨z.1, by have := HN1.out; omega⟩
  clear hin
  go_wp2_with fail
  refine (IN.out _).mono ?_
  rintro e _ ⟨rfl, rfl⟩
  clear IN
  go_upto_region 45 with fail
  clear c0 c3 m0 x0 x1 x2
  have PE := PV.out
  have RE : Box4 v rb 28 (.slice none 0 0) (.int .i64 0) (.slice none 0 0) (.slice none 0 0) := RB.out
  have k0 := PE.x.c0
  have y0 := RE.c0
  have u0 := RE.fr 0
  have k1 := PE.x.c1
  have y1 := RE.c1
  have u1 := RE.fr 1
  have k2 := PE.x.c2
  have y2 := RE.c2
  have u2 := RE.fr 2
  have k3 := PE.x.c3
  have y3 := RE.c3
  have u3 := RE.fr 3
  have X9 : Hid (Box4 ((((v.setCell ⟨rb, 0, none⟩ (.slice (some ⟨gr, 0, none⟩) s.n rc)).setCell ⟨rb, 1, none⟩ (.int .i64 s.t)).setCell ⟨rb, 2, none⟩ (.slice wa s.m wc)).setCell ⟨rb, 3, none⟩ (.slice qa s.l qc)) rb 28 (.slice (some ⟨gr, 0, none⟩) s.n rc) (.int .i64 s.t) (.slice wa s.m wc) (.slice qa s.l qc)) := (((RE.set0 _).set1 _).set2 _).set3 _
  have Q9 : Hid (RetR B s _ (.returned (.tuple #[.agg #[.slice (some ⟨gr, 0, none⟩) s.n rc, .int .i64 s.t, .slice wa s.m wc, .slice qa s.l qc], .int .i64 4])) ((((v.setCell ⟨rb, 0, none⟩ (.slice (some ⟨gr, 0, none⟩) s.n rc)).setCell ⟨rb, 1, none⟩ (.int .i64 s.t)).setCell ⟨rb, 2, none⟩ (.slice wa s.m wc)).setCell ⟨rb, 3, none⟩ (.slice qa s.l qc))) := retR_end (s' := s) (ActS.reply0 (a := ⟨4, k, an⟩) k hk rfl rfl NI.out) PE RE
  have B9 : Hid (Below B w ((((v.setCell ⟨rb, 0, none⟩ (.slice (some ⟨gr, 0, none⟩) s.n rc)).setCell ⟨rb, 1, none⟩ (.int .i64 s.t)).setCell ⟨rb, 2, none⟩ (.slice wa s.m wc)).setCell ⟨rb, 3, none⟩ (.slice qa s.l qc))) := below_res (BV.out.2) (by have := DI.out; omega) _ _ _ _
  clear PE RE PV AB RB KY BV OK DI HSB NI HN1
  go_wp2
  exact ret_cell2 (b := rb) Try.results74 rfl rfl (Box4.loadsv X9.out) ⟨Q9.out, B9.out⟩
 ·replace hin := Classical.not_not.1 hin
  have IN : Hid (∀ w : World, Calls Try.prog 71 #[.int .i64 an, .int .i64 0, .int .i64 N1] w fun e w' => e = .returned (.bool true) ∧ w = w') := fun w => in_any an 0 N1 true (by simp only [decide_eq_true hin]) w
  obtain ⟨q, hq⟩ := Int.eq_ofNat_of_zero_le hin.1
  have qm : q < s.l := by have := HN1.out; have := hin.2; omega
  have qlt : (q : Int) < (s.l : Int) := by omega
  clear hin
  subst hq
  go_wp2_with fail
  refine (IN.out _).mono ?_
  rintro e _ ⟨rfl, rfl⟩
  clear IN
  obtain ⟨gq, ew, -, -, KQ⟩ := RkQ.start PV.out.o.q qm
  subst ew
  have KQH : Hid (RkQ v B gq qc s.l s.Q VQ q (s.Q q) (VQ q)) := KQ
  clear KQ
  cases hu : (s.R k).mute with
  | true =>
   rw [hu] at m0
   have HU : Hid ((s.R k).mute = true) := hu
   clear hu
   go_upto_region 47 with fail
   clear c0 c3 m0 x0 x1 x2
   have PE := PV.out
   have RE : Box4 v rb 28 (.slice none 0 0) (.int .i64 0) (.slice none 0 0) (.slice none 0 0) := RB.out
   have k0 := PE.x.c0
   have y0 := RE.c0
   have u0 := RE.fr 0
   have k1 := PE.x.c1
   have y1 := RE.c1
   have u1 := RE.fr 1
   have k2 := PE.x.c2
   have y2 := RE.c2
   have u2 := RE.fr 2
   have k3 := PE.x.c3
   have y3 := RE.c3
   have u3 := RE.fr 3
   have X9 : Hid (Box4 ((((v.setCell ⟨rb, 0, none⟩ (.slice (some ⟨gr, 0, none⟩) s.n rc)).setCell ⟨rb, 1, none⟩ (.int .i64 s.t)).setCell ⟨rb, 2, none⟩ (.slice wa s.m wc)).setCell ⟨rb, 3, none⟩ (.slice (some ⟨gq, 0, none⟩) s.l qc)) rb 28 (.slice (some ⟨gr, 0, none⟩) s.n rc) (.int .i64 s.t) (.slice wa s.m wc) (.slice (some ⟨gq, 0, none⟩) s.l qc)) := (((RE.set0 _).set1 _).set2 _).set3 _
   have Q9 : Hid (RetR B s _ (.returned (.tuple #[.agg #[.slice (some ⟨gr, 0, none⟩) s.n rc, .int .i64 s.t, .slice wa s.m wc, .slice (some ⟨gq, 0, none⟩) s.l qc], .int .i64 13])) ((((v.setCell ⟨rb, 0, none⟩ (.slice (some ⟨gr, 0, none⟩) s.n rc)).setCell ⟨rb, 1, none⟩ (.int .i64 s.t)).setCell ⟨rb, 2, none⟩ (.slice wa s.m wc)).setCell ⟨rb, 3, none⟩ (.slice (some ⟨gq, 0, none⟩) s.l qc))) := retR_end (s' := s) (ActS.reply1 (a := ⟨4, k, (q : Int)⟩) k q hk rfl rfl qm rfl HU.out) PE RE
   have B9 : Hid (Below B w ((((v.setCell ⟨rb, 0, none⟩ (.slice (some ⟨gr, 0, none⟩) s.n rc)).setCell ⟨rb, 1, none⟩ (.int .i64 s.t)).setCell ⟨rb, 2, none⟩ (.slice wa s.m wc)).setCell ⟨rb, 3, none⟩ (.slice (some ⟨gq, 0, none⟩) s.l qc))) := below_res (BV.out.2) (by have := DI.out; omega) _ _ _ _
   clear PE RE PV AB RB KY BV OK DI HSB HU KQH HN1
   go_wp2
   exact ret_cell2 (b := rb) Try.results74 rfl rfl (Box4.loadsv X9.out) ⟨Q9.out, B9.out⟩
  | false =>
  rw [hu] at m0
  have HU : Hid ((s.R k).mute = false) := hu
  clear hu
  go_upto_region 48 with fail
  clear m0
  have q4 : v.cell? ⟨gq, q * 5 + 4, none⟩ = some (.int .i64 (s.Q q).en) := KQH.out.c qm 4 (by omega)
  have tm := (OK.out.2.2.2 q qm).2.2
  by_cases he : (s.Q q).en = -1
  ·have HE : Hid ((s.Q q).en = -1) := he
   rw [he] at q4
   clear he tm
   have IW := PV.out.o.f q qm
   obtain ⟨la, lcap, eV⟩ := EO.form IW
   have EV : Hid (VQ q = .slice la (s.Q q).ne lcap) := eV
   have IE0 : Hid (IE v B (.slice la (s.Q q).ne lcap) (s.Q q).ne (s.Q q).E) := by rw [← eV]; exact IW
   have IK : Hid (idsOk s.n (s.Q q).ne (s.Q q).E ∧ (s.Q q).ne ≤ 7) := ⟨(OK.out.2.2.2 q qm).2.1, by have := ids_le (OK.out.2.2.2 q qm).2.1; have := OK.out.1.1.2; omega⟩
   have CO : Hid (∀ z : Bool, z = sB (hasE (s.Q q).ne (s.Q q).E k) → Calls Try.prog 97 #[.slice la (s.Q q).ne lcap, .int .i64 (k : Int)] v fun e w' => e = .returned (.bool z) ∧ v = w') := fun z hz => l09Has_any la (s.Q q).ne lcap (s.Q q).E k (by have := IK.out.2; omega) z hz v (IE.num IE0.out)
   have q0 : v.cell? ⟨gq, q * 5, none⟩ = some (.slice la (s.Q q).ne lcap) := by have := KQH.out.c qm 0 (by omega); rw [← eV]; exact this
   clear IW eV
   by_cases hx : hasE (s.Q q).ne (s.Q q).E k
   ·have CH : Hid (Calls Try.prog 97 #[.slice la (s.Q q).ne lcap, .int .i64 (k : Int)] v fun e w' => e = .returned (.bool true) ∧ v = w') := CO.out true (sB_yes hx).symm
    have HX : Hid (hasE (s.Q q).ne (s.Q q).E k) := hx
    clear CO hx
    go_wp2_with fail
    refine CH.out.mono ?_
    rintro e _ ⟨rfl, rfl⟩
    clear CH
    go_upto_region 49 with fail
    clear c0 c3 x0 x1 x2 q0 q4
    have PE := PV.out
    have RE : Box4 v rb 28 (.slice none 0 0) (.int .i64 0) (.slice none 0 0) (.slice none 0 0) := RB.out
    have k0 := PE.x.c0
    have y0 := RE.c0
    have u0 := RE.fr 0
    have k1 := PE.x.c1
    have y1 := RE.c1
    have u1 := RE.fr 1
    have k2 := PE.x.c2
    have y2 := RE.c2
    have u2 := RE.fr 2
    have k3 := PE.x.c3
    have y3 := RE.c3
    have u3 := RE.fr 3
    have X9 : Hid (Box4 ((((v.setCell ⟨rb, 0, none⟩ (.slice (some ⟨gr, 0, none⟩) s.n rc)).setCell ⟨rb, 1, none⟩ (.int .i64 s.t)).setCell ⟨rb, 2, none⟩ (.slice wa s.m wc)).setCell ⟨rb, 3, none⟩ (.slice (some ⟨gq, 0, none⟩) s.l qc)) rb 28 (.slice (some ⟨gr, 0, none⟩) s.n rc) (.int .i64 s.t) (.slice wa s.m wc) (.slice (some ⟨gq, 0, none⟩) s.l qc)) := (((RE.set0 _).set1 _).set2 _).set3 _
    have Q9 : Hid (RetR B s _ (.returned (.tuple #[.agg #[.slice (some ⟨gr, 0, none⟩) s.n rc, .int .i64 s.t, .slice wa s.m wc, .slice (some ⟨gq, 0, none⟩) s.l qc], .int .i64 9])) ((((v.setCell ⟨rb, 0, none⟩ (.slice (some ⟨gr, 0, none⟩) s.n rc)).setCell ⟨rb, 1, none⟩ (.int .i64 s.t)).setCell ⟨rb, 2, none⟩ (.slice wa s.m wc)).setCell ⟨rb, 3, none⟩ (.slice (some ⟨gq, 0, none⟩) s.l qc))) := retR_end (s' := s) (ActS.reply2 (a := ⟨4, k, (q : Int)⟩) k q hk rfl rfl qm rfl HU.out (.inr HX.out)) PE RE
    have B9 : Hid (Below B w ((((v.setCell ⟨rb, 0, none⟩ (.slice (some ⟨gr, 0, none⟩) s.n rc)).setCell ⟨rb, 1, none⟩ (.int .i64 s.t)).setCell ⟨rb, 2, none⟩ (.slice wa s.m wc)).setCell ⟨rb, 3, none⟩ (.slice (some ⟨gq, 0, none⟩) s.l qc))) := below_res (BV.out.2) (by have := DI.out; omega) _ _ _ _
    clear PE RE PV AB RB KY BV OK DI HSB HU HE HX KQH HN1 EV IE0 IK
    go_wp2
    exact ret_cell2 (b := rb) Try.results74 rfl rfl (Box4.loadsv X9.out) ⟨Q9.out, B9.out⟩
   ·have CH : Hid (Calls Try.prog 97 #[.slice la (s.Q q).ne lcap, .int .i64 (k : Int)] v fun e w' => e = .returned (.bool false) ∧ v = w') := CO.out false (sB_no hx).symm
    have HX : Hid (¬ hasE (s.Q q).ne (s.Q q).E k) := hx
    have AE : Hid (addE (s.Q q).ne (s.Q q).E k = ((s.Q q).ne + 1, insE (s.Q q).E (plcE (k : Int) (s.Q q).E (s.Q q).ne) k)) := addE_new hx
    have AH : Hid (Calls Try.prog 98 #[.slice la (s.Q q).ne lcap, .int .i64 (k : Int)] v fun e w' => (∃ b d, e = .returned (.slice b ((s.Q q).ne + 1) d) ∧ IE w' v.heap.size (.slice b ((s.Q q).ne + 1) d) ((s.Q q).ne + 1) (insE (s.Q q).E (plcE (k : Int) (s.Q q).E (s.Q q).ne) k)) ∧ Below v.heap.size v w') := l09Add_any la (s.Q q).ne lcap (s.Q q).E k (by have := IK.out.2; omega) (EO.slp IE0.out) v (IE.num IE0.out)
    clear CO hx
    go_wp2_with fail
    refine CH.out.mono ?_
    rintro e _ ⟨rfl, rfl⟩
    clear CH
    go_wp2_with fail
    refine AH.out.mono ?_
    rintro e v4 ⟨⟨xb, xd, rfl, hI⟩, hb⟩
    clear AH q0 q4 c0 c3 x0 x1 x2
    obtain ⟨ne', hne⟩ : ∃ x, x = (s.Q q).ne + 1 := ⟨_, rfl⟩
    rw [← hne] at hI ⊢
    have HNE : Hid (ne' = (addE (s.Q q).ne (s.Q q).E k).1) := by show _ = _; rw [AE.out]; exact hne
    have NL : Hid (ne' ≤ 8) := by show _ ≤ _; have := IK.out.2; omega
    obtain ⟨W5, hW5⟩ : ∃ x : Ro, x = { s.Q q with ne := ne', E := (addE (s.Q q).ne (s.Q q).E k).2 } := ⟨_, rfl⟩
    have HW5 : Hid (W5 = { s.Q q with ne := ne', E := (addE (s.Q q).ne (s.Q q).E k).2 }) := hW5
    have K4 := KQH.out.below hb
    have f2 : v4.frozen? ⟨gq, q * 5, none⟩ = false := K4.fr qm 0 (by omega)
    have q2 : v4.cell? ⟨gq, q * 5, none⟩ = some (VQ q) := K4.c qm 0 (by omega)
    have K5 : Hid (RkQ (v4.setCell ⟨gq, q * 5, none⟩ (.slice xb ne' xd)) B gq qc s.l s.Q VQ q W5 (.slice xb ne' xd)) := by rw [hW5]; exact K4.setE qm _ _ _
    have I5 : Hid (IE (v4.setCell ⟨gq, q * 5, none⟩ (.slice xb ne' xd)) B (.slice xb ne' xd) W5.ne W5.E) := by rw [hW5, AE.out]; exact IE.setOther (EO.mono hI BV.out.1) K4 (by decide) _ _
    have H5 : Hid (ChB (PR (.slice (some ⟨gq, 0, none⟩) s.l qc) VQ q) v (v4.setCell ⟨gq, q * 5, none⟩ (.slice xb ne' xd))) := ((ChB.refl _ _).step hb).at gq (.inl (.inl rfl)) _ _
    have O5 : Hid (∀ g, (Value.slice xb ne' xd).ownBlock = some g → (VQ q).ownBlock = some g ∨ v.heap.size ≤ g) := fun g e => .inr (EO.ge hI g e).1
    clear hne hW5 hI hb K4
    go_upto_region 52 with fail
    generalize (v4.setCell ⟨gq, q * 5, none⟩ (.slice xb ne' xd)) = v5 at *
    clear q2 f2
    have NP := chQ_r PV.out.o qm gr rfl
    have KR5 : Hid (RkR v5 B gr rc s.n s.R VR k (s.R k) (VR k)) := KY.out.keep (H5.out.block gr KY.out.lt.2 NP)
    have NGR : Hid (¬ PG gq gr) := fun z => NP (.inl (by unfold PG at z; rw [z]; rfl))
    have KX : Hid (RkQ v5.drew B gq qc s.l s.Q VQ q W5 (.slice xb ne' xd)) := K5.out.below (Below.refl _ _).drew
    have BC : Hid (W5.bc = (s.Q q).bc ∧ W5.bt = (s.Q q).bt) := by rw [HW5.out]; exact ⟨rfl, rfl⟩
    clear NP
    have H : ChB (PG gq) v5 v5.drew := (ChB.refl _ _).drew
    refine wp_region_noPanic ?_
    refine wp_region_held_drew (S := fun w' => ChB (PG gq) v5 w') (by kernel_rfl) H (fun _ => ?_)
    generalize v5.drew = y0 at *
    refine tkH (i := 0) (v := .pointer (some ⟨gq, q * 5, none⟩)) rfl (by kernel_rfl) (by rfl) ?_ H ?_
    ·intro w' hSw; clear hSw; go_simp
    change wpAnyH _ _ _ _ _ _ _ { tmps := #[_,_,_,_,_,_,_,_,_,_,_,_,_,_,_,_,_,_,_,_,_,_,_,_,_,_,_,_,_,_,_,_,_,_,_,_,_,_,_,_,_,_,_,_,_,_,_,_,_,_,_,_,_,_,_,_,_,_,_,_,_,_,_,_,_,_,_,_,_,_,_,_,_,_,_,_,_,_,_,_,_,_,_,_,_,_,_,_,_,_,_,_,_,_,_,_,_,_,_,_,_,_,_,_,_,_,_,_,_,_,_,_,_,_,_,_,_,_,_,_,_,_,_,_,_,_,_,_,_,_,_,_,_,_,_,_,_,_,_,_,_,_,_,_,_,_,_,_,_,_,_,_,_,_,_,_,_,_,_,_,_,_,_,_,_,_,_,_,_,_,_,_,_,_,_,_,_,_,_,_,_,_,_,_,_,_,_,_,_,_,_,_,_,_,_,_,_,_,_,_,_,_,_,_,_,_,_,_,_,_,_,_,_,_,_,_,_,_,_,_,_,_,_,_,_,_,_,_,_,_,_,_,_,_,_,_,_,_,_,_,_,_,_,_,_,_,_,_,_,_,_,_,_,_,_,_,_,_,_,_,_,_,_,_,_,_,_,_,_,_,_,_,_,_,_,_,_,_,_,_,_,_,_,_,_,_,_,_,_,_,_,_,_,_,_,_,_,_,_,_,_,_,_,_,_,_,_,_,_,_,_,_,_,_,_,_,_,_,_,_,_,_], defers := _ } _
    refine tkH (i := 1) (v := .pointer (some ⟨gq, q * 5, none⟩)) rfl (by kernel_rfl) (by rfl) ?_ H ?_
    ·intro w' hSw; clear hSw; go_simp
    change wpAnyH _ _ _ _ _ _ _ { tmps := #[_,_,_,_,_,_,_,_,_,_,_,_,_,_,_,_,_,_,_,_,_,_,_,_,_,_,_,_,_,_,_,_,_,_,_,_,_,_,_,_,_,_,_,_,_,_,_,_,_,_,_,_,_,_,_,_,_,_,_,_,_,_,_,_,_,_,_,_,_,_,_,_,_,_,_,_,_,_,_,_,_,_,_,_,_,_,_,_,_,_,_,_,_,_,_,_,_,_,_,_,_,_,_,_,_,_,_,_,_,_,_,_,_,_,_,_,_,_,_,_,_,_,_,_,_,_,_,_,_,_,_,_,_,_,_,_,_,_,_,_,_,_,_,_,_,_,_,_,_,_,_,_,_,_,_,_,_,_,_,_,_,_,_,_,_,_,_,_,_,_,_,_,_,_,_,_,_,_,_,_,_,_,_,_,_,_,_,_,_,_,_,_,_,_,_,_,_,_,_,_,_,_,_,_,_,_,_,_,_,_,_,_,_,_,_,_,_,_,_,_,_,_,_,_,_,_,_,_,_,_,_,_,_,_,_,_,_,_,_,_,_,_,_,_,_,_,_,_,_,_,_,_,_,_,_,_,_,_,_,_,_,_,_,_,_,_,_,_,_,_,_,_,_,_,_,_,_,_,_,_,_,_,_,_,_,_,_,_,_,_,_,_,_,_,_,_,_,_,_,_,_,_,_,_,_,_,_,_,_,_,_,_,_,_,_,_,_,_,_,_,_,_], defers := _ } _
    refine tkH (i := 2) (v := .pointer (some ⟨gq, q * 5, none⟩)) rfl (by kernel_rfl) (by rfl) ?_ H ?_
    ·intro w' hSw; clear hSw; go_simp
    change wpAnyH _ _ _ _ _ _ _ { tmps := #[_,_,_,_,_,_,_,_,_,_,_,_,_,_,_,_,_,_,_,_,_,_,_,_,_,_,_,_,_,_,_,_,_,_,_,_,_,_,_,_,_,_,_,_,_,_,_,_,_,_,_,_,_,_,_,_,_,_,_,_,_,_,_,_,_,_,_,_,_,_,_,_,_,_,_,_,_,_,_,_,_,_,_,_,_,_,_,_,_,_,_,_,_,_,_,_,_,_,_,_,_,_,_,_,_,_,_,_,_,_,_,_,_,_,_,_,_,_,_,_,_,_,_,_,_,_,_,_,_,_,_,_,_,_,_,_,_,_,_,_,_,_,_,_,_,_,_,_,_,_,_,_,_,_,_,_,_,_,_,_,_,_,_,_,_,_,_,_,_,_,_,_,_,_,_,_,_,_,_,_,_,_,_,_,_,_,_,_,_,_,_,_,_,_,_,_,_,_,_,_,_,_,_,_,_,_,_,_,_,_,_,_,_,_,_,_,_,_,_,_,_,_,_,_,_,_,_,_,_,_,_,_,_,_,_,_,_,_,_,_,_,_,_,_,_,_,_,_,_,_,_,_,_,_,_,_,_,_,_,_,_,_,_,_,_,_,_,_,_,_,_,_,_,_,_,_,_,_,_,_,_,_,_,_,_,_,_,_,_,_,_,_,_,_,_,_,_,_,_,_,_,_,_,_,_,_,_,_,_,_,_,_,_,_,_,_,_,_,_,_,_,_], defers := _ } _
    refine tkH (i := 3) (v := .pointer (some ⟨gq, q * 5 + 1, none⟩)) rfl (by kernel_rfl) (by rfl) ?_ H ?_
    ·intro w' hSw; clear hSw; go_simp
    change wpAnyH _ _ _ _ _ _ _ { tmps := #[_,_,_,_,_,_,_,_,_,_,_,_,_,_,_,_,_,_,_,_,_,_,_,_,_,_,_,_,_,_,_,_,_,_,_,_,_,_,_,_,_,_,_,_,_,_,_,_,_,_,_,_,_,_,_,_,_,_,_,_,_,_,_,_,_,_,_,_,_,_,_,_,_,_,_,_,_,_,_,_,_,_,_,_,_,_,_,_,_,_,_,_,_,_,_,_,_,_,_,_,_,_,_,_,_,_,_,_,_,_,_,_,_,_,_,_,_,_,_,_,_,_,_,_,_,_,_,_,_,_,_,_,_,_,_,_,_,_,_,_,_,_,_,_,_,_,_,_,_,_,_,_,_,_,_,_,_,_,_,_,_,_,_,_,_,_,_,_,_,_,_,_,_,_,_,_,_,_,_,_,_,_,_,_,_,_,_,_,_,_,_,_,_,_,_,_,_,_,_,_,_,_,_,_,_,_,_,_,_,_,_,_,_,_,_,_,_,_,_,_,_,_,_,_,_,_,_,_,_,_,_,_,_,_,_,_,_,_,_,_,_,_,_,_,_,_,_,_,_,_,_,_,_,_,_,_,_,_,_,_,_,_,_,_,_,_,_,_,_,_,_,_,_,_,_,_,_,_,_,_,_,_,_,_,_,_,_,_,_,_,_,_,_,_,_,_,_,_,_,_,_,_,_,_,_,_,_,_,_,_,_,_,_,_,_,_,_,_,_,_,_,_], defers := _ } _
    refine tkH (i := 5) (v := .pointer (some ⟨gr, k * 8, none⟩)) rfl (by kernel_rfl) (by rfl) ?_ H ?_
    ·intro w' hSw; clear hSw; go_simp
    change wpAnyH _ _ _ _ _ _ _ { tmps := #[_,_,_,_,_,_,_,_,_,_,_,_,_,_,_,_,_,_,_,_,_,_,_,_,_,_,_,_,_,_,_,_,_,_,_,_,_,_,_,_,_,_,_,_,_,_,_,_,_,_,_,_,_,_,_,_,_,_,_,_,_,_,_,_,_,_,_,_,_,_,_,_,_,_,_,_,_,_,_,_,_,_,_,_,_,_,_,_,_,_,_,_,_,_,_,_,_,_,_,_,_,_,_,_,_,_,_,_,_,_,_,_,_,_,_,_,_,_,_,_,_,_,_,_,_,_,_,_,_,_,_,_,_,_,_,_,_,_,_,_,_,_,_,_,_,_,_,_,_,_,_,_,_,_,_,_,_,_,_,_,_,_,_,_,_,_,_,_,_,_,_,_,_,_,_,_,_,_,_,_,_,_,_,_,_,_,_,_,_,_,_,_,_,_,_,_,_,_,_,_,_,_,_,_,_,_,_,_,_,_,_,_,_,_,_,_,_,_,_,_,_,_,_,_,_,_,_,_,_,_,_,_,_,_,_,_,_,_,_,_,_,_,_,_,_,_,_,_,_,_,_,_,_,_,_,_,_,_,_,_,_,_,_,_,_,_,_,_,_,_,_,_,_,_,_,_,_,_,_,_,_,_,_,_,_,_,_,_,_,_,_,_,_,_,_,_,_,_,_,_,_,_,_,_,_,_,_,_,_,_,_,_,_,_,_,_,_,_,_,_,_,_], defers := _ } _
    refine tkH (i := 6) (v := .pointer (some ⟨gr, k * 8, none⟩)) rfl (by kernel_rfl) (by rfl) ?_ H ?_
    ·intro w' hSw; clear hSw; go_simp
    change wpAnyH _ _ _ _ _ _ _ { tmps := #[_,_,_,_,_,_,_,_,_,_,_,_,_,_,_,_,_,_,_,_,_,_,_,_,_,_,_,_,_,_,_,_,_,_,_,_,_,_,_,_,_,_,_,_,_,_,_,_,_,_,_,_,_,_,_,_,_,_,_,_,_,_,_,_,_,_,_,_,_,_,_,_,_,_,_,_,_,_,_,_,_,_,_,_,_,_,_,_,_,_,_,_,_,_,_,_,_,_,_,_,_,_,_,_,_,_,_,_,_,_,_,_,_,_,_,_,_,_,_,_,_,_,_,_,_,_,_,_,_,_,_,_,_,_,_,_,_,_,_,_,_,_,_,_,_,_,_,_,_,_,_,_,_,_,_,_,_,_,_,_,_,_,_,_,_,_,_,_,_,_,_,_,_,_,_,_,_,_,_,_,_,_,_,_,_,_,_,_,_,_,_,_,_,_,_,_,_,_,_,_,_,_,_,_,_,_,_,_,_,_,_,_,_,_,_,_,_,_,_,_,_,_,_,_,_,_,_,_,_,_,_,_,_,_,_,_,_,_,_,_,_,_,_,_,_,_,_,_,_,_,_,_,_,_,_,_,_,_,_,_,_,_,_,_,_,_,_,_,_,_,_,_,_,_,_,_,_,_,_,_,_,_,_,_,_,_,_,_,_,_,_,_,_,_,_,_,_,_,_,_,_,_,_,_,_,_,_,_,_,_,_,_,_,_,_,_,_,_,_,_,_,_], defers := _ } _
    refine tkH (i := 7) (v := .pointer (some ⟨gr, k * 8 + 1, none⟩)) rfl (by kernel_rfl) (by rfl) ?_ H ?_
    ·intro w' hSw; clear hSw; go_simp
    change wpAnyH _ _ _ _ _ _ _ { tmps := #[_,_,_,_,_,_,_,_,_,_,_,_,_,_,_,_,_,_,_,_,_,_,_,_,_,_,_,_,_,_,_,_,_,_,_,_,_,_,_,_,_,_,_,_,_,_,_,_,_,_,_,_,_,_,_,_,_,_,_,_,_,_,_,_,_,_,_,_,_,_,_,_,_,_,_,_,_,_,_,_,_,_,_,_,_,_,_,_,_,_,_,_,_,_,_,_,_,_,_,_,_,_,_,_,_,_,_,_,_,_,_,_,_,_,_,_,_,_,_,_,_,_,_,_,_,_,_,_,_,_,_,_,_,_,_,_,_,_,_,_,_,_,_,_,_,_,_,_,_,_,_,_,_,_,_,_,_,_,_,_,_,_,_,_,_,_,_,_,_,_,_,_,_,_,_,_,_,_,_,_,_,_,_,_,_,_,_,_,_,_,_,_,_,_,_,_,_,_,_,_,_,_,_,_,_,_,_,_,_,_,_,_,_,_,_,_,_,_,_,_,_,_,_,_,_,_,_,_,_,_,_,_,_,_,_,_,_,_,_,_,_,_,_,_,_,_,_,_,_,_,_,_,_,_,_,_,_,_,_,_,_,_,_,_,_,_,_,_,_,_,_,_,_,_,_,_,_,_,_,_,_,_,_,_,_,_,_,_,_,_,_,_,_,_,_,_,_,_,_,_,_,_,_,_,_,_,_,_,_,_,_,_,_,_,_,_,_,_,_,_,_,_], defers := _ } _
    refine tkH (i := 8) (v := .agg #[.int .i64 (s.R k).nc, .int .i64 (s.R k).nt]) rfl (by kernel_rfl) (by rfl) ?_ H ?_
    ·intro w' hSw; have KT := KR5.out.keep (w' := w') (hSw.block gr KR5.out.lt.2 NGR.out); have p1 : w'.cell? ⟨gr, k * 8 + 1, none⟩ = some (.int .i64 (s.R k).nc) := KT.c hk 1 (by omega); have p2 : w'.cell? ⟨gr, k * 8 + 2, none⟩ = some (.int .i64 (s.R k).nt) := KT.c hk 2 (by omega); clear KT hSw; go_simp
    change wpAnyH _ _ _ _ _ _ _ { tmps := #[_,_,_,_,_,_,_,_,_,_,_,_,_,_,_,_,_,_,_,_,_,_,_,_,_,_,_,_,_,_,_,_,_,_,_,_,_,_,_,_,_,_,_,_,_,_,_,_,_,_,_,_,_,_,_,_,_,_,_,_,_,_,_,_,_,_,_,_,_,_,_,_,_,_,_,_,_,_,_,_,_,_,_,_,_,_,_,_,_,_,_,_,_,_,_,_,_,_,_,_,_,_,_,_,_,_,_,_,_,_,_,_,_,_,_,_,_,_,_,_,_,_,_,_,_,_,_,_,_,_,_,_,_,_,_,_,_,_,_,_,_,_,_,_,_,_,_,_,_,_,_,_,_,_,_,_,_,_,_,_,_,_,_,_,_,_,_,_,_,_,_,_,_,_,_,_,_,_,_,_,_,_,_,_,_,_,_,_,_,_,_,_,_,_,_,_,_,_,_,_,_,_,_,_,_,_,_,_,_,_,_,_,_,_,_,_,_,_,_,_,_,_,_,_,_,_,_,_,_,_,_,_,_,_,_,_,_,_,_,_,_,_,_,_,_,_,_,_,_,_,_,_,_,_,_,_,_,_,_,_,_,_,_,_,_,_,_,_,_,_,_,_,_,_,_,_,_,_,_,_,_,_,_,_,_,_,_,_,_,_,_,_,_,_,_,_,_,_,_,_,_,_,_,_,_,_,_,_,_,_,_,_,_,_,_,_,_,_,_,_,_,_], defers := _ } _
    refine rdH (i := 4) (by kernel_rfl) rfl (fun KK hK => ?_)
    have r1 : y0.cell? ⟨gq, q * 5 + 1, none⟩ = some (.int .i64 (s.Q q).bc) := by rw [← BC.out.1]; exact KX.out.c qm 1 (by omega)
    have r2 : y0.cell? ⟨gq, q * 5 + 2, none⟩ = some (.int .i64 (s.Q q).bt) := by rw [← BC.out.2]; exact KX.out.c qm 2 (by omega)
    go_simp
    refine hK.out _ _ H (fun _ => ?_)
    clear hK KK
    change wpAnyH _ _ _ _ _ _ _ { tmps := #[_,_,_,_,_,_,_,_,_,_,_,_,_,_,_,_,_,_,_,_,_,_,_,_,_,_,_,_,_,_,_,_,_,_,_,_,_,_,_,_,_,_,_,_,_,_,_,_,_,_,_,_,_,_,_,_,_,_,_,_,_,_,_,_,_,_,_,_,_,_,_,_,_,_,_,_,_,_,_,_,_,_,_,_,_,_,_,_,_,_,_,_,_,_,_,_,_,_,_,_,_,_,_,_,_,_,_,_,_,_,_,_,_,_,_,_,_,_,_,_,_,_,_,_,_,_,_,_,_,_,_,_,_,_,_,_,_,_,_,_,_,_,_,_,_,_,_,_,_,_,_,_,_,_,_,_,_,_,_,_,_,_,_,_,_,_,_,_,_,_,_,_,_,_,_,_,_,_,_,_,_,_,_,_,_,_,_,_,_,_,_,_,_,_,_,_,_,_,_,_,_,_,_,_,_,_,_,_,_,_,_,_,_,_,_,_,_,_,_,_,_,_,_,_,_,_,_,_,_,_,_,_,_,_,_,_,_,_,_,_,_,_,_,_,_,_,_,_,_,_,_,_,_,_,_,_,_,_,_,_,_,_,_,_,_,_,_,_,_,_,_,_,_,_,_,_,_,_,_,_,_,_,_,_,_,_,_,_,_,_,_,_,_,_,_,_,_,_,_,_,_,_,_,_,_,_,_,_,_,_,_,_,_,_,_,_,_,_,_,_,_,_], defers := _ } _
    refine rdH (i := 9) (by kernel_rfl) rfl (fun KK hK => ?_)
    go_simp
    refine (l09Later_any (s.Q q).bc (s.Q q).bt (s.R k).nc (s.R k).nt y0).mono ?_
    rintro e y1 ⟨rfl, hb⟩
    replace KX : Hid (RkQ y1 B gq qc s.l s.Q VQ q W5 (.slice xb ne' xd)) := KX.out.below hb
    replace H : ChB (PG gq) v5 y1 := H.step hb
    obtain ⟨lc, hlc⟩ : ∃ x, x = (ltr (s.Q q).bc (s.Q q).bt (s.R k).nc (s.R k).nt).1 := ⟨_, rfl⟩
    obtain ⟨lt, hlt⟩ : ∃ x, x = (ltr (s.Q q).bc (s.Q q).bt (s.R k).nc (s.R k).nt).2 := ⟨_, rfl⟩
    rw [← hlc, ← hlt]
    have LT : Hid (lc = (ltr (s.Q q).bc (s.Q q).bt (s.R k).nc (s.R k).nt).1 ∧ lt = (ltr (s.Q q).bc (s.Q q).bt (s.R k).nc (s.R k).nt).2) := ⟨hlc, hlt⟩
    clear hlc hlt r1 r2
    clear hb
    refine hK.out _ _ H (fun _ => ?_)
    clear hK KK
    change wpAnyH _ _ _ _ _ _ _ { tmps := #[_,_,_,_,_,_,_,_,_,_,_,_,_,_,_,_,_,_,_,_,_,_,_,_,_,_,_,_,_,_,_,_,_,_,_,_,_,_,_,_,_,_,_,_,_,_,_,_,_,_,_,_,_,_,_,_,_,_,_,_,_,_,_,_,_,_,_,_,_,_,_,_,_,_,_,_,_,_,_,_,_,_,_,_,_,_,_,_,_,_,_,_,_,_,_,_,_,_,_,_,_,_,_,_,_,_,_,_,_,_,_,_,_,_,_,_,_,_,_,_,_,_,_,_,_,_,_,_,_,_,_,_,_,_,_,_,_,_,_,_,_,_,_,_,_,_,_,_,_,_,_,_,_,_,_,_,_,_,_,_,_,_,_,_,_,_,_,_,_,_,_,_,_,_,_,_,_,_,_,_,_,_,_,_,_,_,_,_,_,_,_,_,_,_,_,_,_,_,_,_,_,_,_,_,_,_,_,_,_,_,_,_,_,_,_,_,_,_,_,_,_,_,_,_,_,_,_,_,_,_,_,_,_,_,_,_,_,_,_,_,_,_,_,_,_,_,_,_,_,_,_,_,_,_,_,_,_,_,_,_,_,_,_,_,_,_,_,_,_,_,_,_,_,_,_,_,_,_,_,_,_,_,_,_,_,_,_,_,_,_,_,_,_,_,_,_,_,_,_,_,_,_,_,_,_,_,_,_,_,_,_,_,_,_,_,_,_,_,_,_,_,_], defers := _ } _
    refine tkH (i := 10) (v := .pointer (some ⟨gq, q * 5, none⟩)) rfl (by kernel_rfl) (by rfl) ?_ H ?_
    ·intro w' hSw; clear hSw; go_simp
    change wpAnyH _ _ _ _ _ _ _ { tmps := #[_,_,_,_,_,_,_,_,_,_,_,_,_,_,_,_,_,_,_,_,_,_,_,_,_,_,_,_,_,_,_,_,_,_,_,_,_,_,_,_,_,_,_,_,_,_,_,_,_,_,_,_,_,_,_,_,_,_,_,_,_,_,_,_,_,_,_,_,_,_,_,_,_,_,_,_,_,_,_,_,_,_,_,_,_,_,_,_,_,_,_,_,_,_,_,_,_,_,_,_,_,_,_,_,_,_,_,_,_,_,_,_,_,_,_,_,_,_,_,_,_,_,_,_,_,_,_,_,_,_,_,_,_,_,_,_,_,_,_,_,_,_,_,_,_,_,_,_,_,_,_,_,_,_,_,_,_,_,_,_,_,_,_,_,_,_,_,_,_,_,_,_,_,_,_,_,_,_,_,_,_,_,_,_,_,_,_,_,_,_,_,_,_,_,_,_,_,_,_,_,_,_,_,_,_,_,_,_,_,_,_,_,_,_,_,_,_,_,_,_,_,_,_,_,_,_,_,_,_,_,_,_,_,_,_,_,_,_,_,_,_,_,_,_,_,_,_,_,_,_,_,_,_,_,_,_,_,_,_,_,_,_,_,_,_,_,_,_,_,_,_,_,_,_,_,_,_,_,_,_,_,_,_,_,_,_,_,_,_,_,_,_,_,_,_,_,_,_,_,_,_,_,_,_,_,_,_,_,_,_,_,_,_,_,_,_,_,_,_,_,_,_], defers := _ } _
    refine tkH (i := 11) (v := .pointer (some ⟨gq, q * 5 + 1, none⟩)) rfl (by kernel_rfl) (by rfl) ?_ H ?_
    ·intro w' hSw; clear hSw; go_simp
    change wpAnyH _ _ _ _ _ _ _ { tmps := #[_,_,_,_,_,_,_,_,_,_,_,_,_,_,_,_,_,_,_,_,_,_,_,_,_,_,_,_,_,_,_,_,_,_,_,_,_,_,_,_,_,_,_,_,_,_,_,_,_,_,_,_,_,_,_,_,_,_,_,_,_,_,_,_,_,_,_,_,_,_,_,_,_,_,_,_,_,_,_,_,_,_,_,_,_,_,_,_,_,_,_,_,_,_,_,_,_,_,_,_,_,_,_,_,_,_,_,_,_,_,_,_,_,_,_,_,_,_,_,_,_,_,_,_,_,_,_,_,_,_,_,_,_,_,_,_,_,_,_,_,_,_,_,_,_,_,_,_,_,_,_,_,_,_,_,_,_,_,_,_,_,_,_,_,_,_,_,_,_,_,_,_,_,_,_,_,_,_,_,_,_,_,_,_,_,_,_,_,_,_,_,_,_,_,_,_,_,_,_,_,_,_,_,_,_,_,_,_,_,_,_,_,_,_,_,_,_,_,_,_,_,_,_,_,_,_,_,_,_,_,_,_,_,_,_,_,_,_,_,_,_,_,_,_,_,_,_,_,_,_,_,_,_,_,_,_,_,_,_,_,_,_,_,_,_,_,_,_,_,_,_,_,_,_,_,_,_,_,_,_,_,_,_,_,_,_,_,_,_,_,_,_,_,_,_,_,_,_,_,_,_,_,_,_,_,_,_,_,_,_,_,_,_,_,_,_,_,_,_,_,_,_], defers := _ } _
    refine rdH (i := 12) (by kernel_rfl) rfl (fun KK hK => ?_)
    have f1 := KX.out.fr qm 1 (by omega)
    have f2 := KX.out.fr qm 2 (by omega)
    have r1 : y1.cell? ⟨gq, q * 5 + 1, none⟩ = some (.int .i64 (s.Q q).bc) := by rw [← BC.out.1]; exact KX.out.c qm 1 (by omega)
    have r2 : y1.cell? ⟨gq, q * 5 + 2, none⟩ = some (.int .i64 (s.Q q).bt) := by rw [← BC.out.2]; exact KX.out.c qm 2 (by omega)
    go_simp
    have K7 : Hid (RkQ ((y1.setCell ⟨gq, q * 5 + 1, none⟩ (.int .i64 lc)).setCell ⟨gq, q * 5 + 2, none⟩ (.int .i64 lt)) B gq qc s.l s.Q VQ q { W5 with bc := (ltr (s.Q q).bc (s.Q q).bt (s.R k).nc (s.R k).nt).1, bt := (ltr (s.Q q).bc (s.Q q).bt (s.R k).nc (s.R k).nt).2 } (.slice xb ne' xd)) := by have h9 := KX.out.best qm lc lt; rw [← LT.out.1, ← LT.out.2]; exact h9
    replace H : ChB (PG gq) v5 ((y1.setCell ⟨gq, q * 5 + 1, none⟩ (.int .i64 lc)).setCell ⟨gq, q * 5 + 2, none⟩ (.int .i64 lt)) := (H.at gq (.inl rfl) _ _).at gq (.inl rfl) _ _
    clear r1 r2 f1 f2 KX
    generalize ((y1.setCell ⟨gq, q * 5 + 1, none⟩ (.int .i64 lc)).setCell ⟨gq, q * 5 + 2, none⟩ (.int .i64 lt)) = y2 at *
    refine hK.out _ _ H (fun _ => ?_)
    clear hK KK
    change wpAnyH _ _ _ _ _ _ _ { tmps := #[_,_,_,_,_,_,_,_,_,_,_,_,_,_,_,_,_,_,_,_,_,_,_,_,_,_,_,_,_,_,_,_,_,_,_,_,_,_,_,_,_,_,_,_,_,_,_,_,_,_,_,_,_,_,_,_,_,_,_,_,_,_,_,_,_,_,_,_,_,_,_,_,_,_,_,_,_,_,_,_,_,_,_,_,_,_,_,_,_,_,_,_,_,_,_,_,_,_,_,_,_,_,_,_,_,_,_,_,_,_,_,_,_,_,_,_,_,_,_,_,_,_,_,_,_,_,_,_,_,_,_,_,_,_,_,_,_,_,_,_,_,_,_,_,_,_,_,_,_,_,_,_,_,_,_,_,_,_,_,_,_,_,_,_,_,_,_,_,_,_,_,_,_,_,_,_,_,_,_,_,_,_,_,_,_,_,_,_,_,_,_,_,_,_,_,_,_,_,_,_,_,_,_,_,_,_,_,_,_,_,_,_,_,_,_,_,_,_,_,_,_,_,_,_,_,_,_,_,_,_,_,_,_,_,_,_,_,_,_,_,_,_,_,_,_,_,_,_,_,_,_,_,_,_,_,_,_,_,_,_,_,_,_,_,_,_,_,_,_,_,_,_,_,_,_,_,_,_,_,_,_,_,_,_,_,_,_,_,_,_,_,_,_,_,_,_,_,_,_,_,_,_,_,_,_,_,_,_,_,_,_,_,_,_,_,_,_,_,_,_,_,_], defers := _ } _
    refine wpAnyH_done (by kernel_rfl) ?_ _
    refine NoPanic.normal ?_
    have H7 : Hid (ChB (PR (.slice (some ⟨gq, 0, none⟩) s.l qc) VQ q) v y2) := H5.out.trans (H.wide (fun g z => .inl (by unfold PG at z; rw [z]; rfl)))
    have I7 : Hid (IE y2 B (.slice xb ne' xd) W5.ne W5.E) := EO.ch I5.out H (fun g e z => EO.apart I5.out K5.out (by decide) g e (by unfold PG at z; rw [z]; rfl))
    clear H K5 I5 H5 KR5 NGR BC LT
    go_upto_region 53 with fail
    generalize y2 = v6 at *
    have q0 : v6.cell? ⟨gq, q * 5, none⟩ = some (.slice xb ne' xd) := K7.out.c qm 0 (by omega)
    have n8 : ne' ≤ 8 := NL.out
    by_cases hj : majN s.n ≤ ne'
    ·have hj' : ((majN s.n : Nat) : Int) ≤ ((ne' : Nat) : Int) := by omega
     have HJ : Hid (majN s.n ≤ ne') := hj
     clear hj
     have c1 := (PV.out.x.ch H7.out (PV.out.nbQ qm PV.out.x (by decide) (by decide))).c1
     have f4 := K7.out.fr qm 4 (by omega)
     have g4 : v6.cell? ⟨gq, q * 5 + 4, none⟩ = some (.int .i64 W5.en) := K7.out.c qm 4 (by omega)
     have K8 : Hid (RkQ (v6.setCell ⟨gq, q * 5 + 4, none⟩ (.int .i64 s.t)) B gq qc s.l s.Q VQ q ((s.Q q).hear s.n s.t k (s.R k).nc (s.R k).nt) (.slice xb ne' xd)) := by have h9 := K7.out.setN qm s.t; rw [HW5.out] at h9; unfold Ro.hear; rw [if_pos (HNE.out ▸ HJ.out), ← HNE.out]; exact h9
     have I8 : Hid (IE (v6.setCell ⟨gq, q * 5 + 4, none⟩ (.int .i64 s.t)) B (.slice xb ne' xd) ((s.Q q).hear s.n s.t k (s.R k).nc (s.R k).nt).ne ((s.Q q).hear s.n s.t k (s.R k).nc (s.R k).nt).E) := by have h9 := IE.setOther I7.out K7.out (by decide) (q * 5 + 4) (.int .i64 s.t); rw [HW5.out] at h9; rw [HNE.out] at h9 ⊢; exact h9
     have H8 : Hid (ChB (PR (.slice (some ⟨gq, 0, none⟩) s.l qc) VQ q) v (v6.setCell ⟨gq, q * 5 + 4, none⟩ (.int .i64 s.t))) := H7.out.at gq (.inl (.inl rfl)) _ _
     have RB8 : Hid (Box4 (v6.setCell ⟨gq, q * 5 + 4, none⟩ (.int .i64 s.t)) rb 28 (.slice none 0 0) (.int .i64 0) (.slice none 0 0) (.slice none 0 0)) := RB.out.ch H8.out (PV.out.nbQ qm RB.out (by decide) (by decide))
     go_upto_region 55 with fail
     generalize (v6.setCell ⟨gq, q * 5 + 4, none⟩ (.int .i64 s.t)) = v7 at *
     clear c1 f4 g4 q0
     have PE := PV.out.chQ qm H8.out K8.out I8.out O5.out
     have RE : Box4 v7 rb 28 (.slice none 0 0) (.int .i64 0) (.slice none 0 0) (.slice none 0 0) := RB8.out
     have k0 := PE.x.c0
     have y0 := RE.c0
     have u0 := RE.fr 0
     have k1 := PE.x.c1
     have y1 := RE.c1
     have u1 := RE.fr 1
     have k2 := PE.x.c2
     have y2 := RE.c2
     have u2 := RE.fr 2
     have k3 := PE.x.c3
     have y3 := RE.c3
     have u3 := RE.fr 3
     have X9 : Hid (Box4 ((((v7.setCell ⟨rb, 0, none⟩ (.slice (some ⟨gr, 0, none⟩) s.n rc)).setCell ⟨rb, 1, none⟩ (.int .i64 s.t)).setCell ⟨rb, 2, none⟩ (.slice wa s.m wc)).setCell ⟨rb, 3, none⟩ (.slice (some ⟨gq, 0, none⟩) s.l qc)) rb 28 (.slice (some ⟨gr, 0, none⟩) s.n rc) (.int .i64 s.t) (.slice wa s.m wc) (.slice (some ⟨gq, 0, none⟩) s.l qc)) := (((RE.set0 _).set1 _).set2 _).set3 _
     have Q9 : Hid (RetR B s _ (.returned (.tuple #[.agg #[.slice (some ⟨gr, 0, none⟩) s.n rc, .int .i64 s.t, .slice wa s.m wc, .slice (some ⟨gq, 0, none⟩) s.l qc], .int .i64 0])) ((((v7.setCell ⟨rb, 0, none⟩ (.slice (some ⟨gr, 0, none⟩) s.n rc)).setCell ⟨rb, 1, none⟩ (.int .i64 s.t)).setCell ⟨rb, 2, none⟩ (.slice wa s.m wc)).setCell ⟨rb, 3, none⟩ (.slice (some ⟨gq, 0, none⟩) s.l qc))) := retR_end (s' := { s with Q := updE s.Q q ((s.Q q).hear s.n s.t k (s.R k).nc (s.R k).nt) }) (ActS.reply (a := ⟨4, k, (q : Int)⟩) k q hk rfl rfl qm rfl HU.out HE.out HX.out) PE RE
     have B9 : Hid (Below B w ((((v7.setCell ⟨rb, 0, none⟩ (.slice (some ⟨gr, 0, none⟩) s.n rc)).setCell ⟨rb, 1, none⟩ (.int .i64 s.t)).setCell ⟨rb, 2, none⟩ (.slice wa s.m wc)).setCell ⟨rb, 3, none⟩ (.slice (some ⟨gq, 0, none⟩) s.l qc))) := below_res (BV.out.2.trans (H8.out.toBelow (fun g z => (PR.geQ PV.out qm g z).1) BV.out.1)) (by have := DI.out; omega) _ _ _ _
     clear PE RE PV KQH RB BV KY AB OK DI HSB HU HE HX EV IE0 IK K7 I7 H7 O5 HW5 HNE NL AE HN1 HJ K8 I8 H8 RB8
     go_wp2
     exact ret_cell2 (b := rb) Try.results74 rfl rfl (Box4.loadsv X9.out) ⟨Q9.out, B9.out⟩
    ·have hj' : ¬ ((majN s.n : Nat) : Int) ≤ ((ne' : Nat) : Int) := by omega
     have HJ : Hid (¬ majN s.n ≤ ne') := hj
     clear hj
     have WE : Hid ({ W5 with bc := (ltr (s.Q q).bc (s.Q q).bt (s.R k).nc (s.R k).nt).1, bt := (ltr (s.Q q).bc (s.Q q).bt (s.R k).nc (s.R k).nt).2 } = (s.Q q).hear s.n s.t k (s.R k).nc (s.R k).nt) := by show _ = _; rw [HW5.out]; unfold Ro.hear; rw [if_neg (fun q => HJ.out (HNE.out ▸ q)), ← HNE.out]
     have I9 : Hid (IE v6 B (.slice xb ne' xd) ((s.Q q).hear s.n s.t k (s.R k).nc (s.R k).nt).ne ((s.Q q).hear s.n s.t k (s.R k).nc (s.R k).nt).E) := by rw [← WE.out]; exact I7.out
     go_upto_region 55 with fail
     clear q0
     have PE := PV.out.chQ qm H7.out (WE.out ▸ K7.out) I9.out O5.out
     have RE : Box4 v6 rb 28 (.slice none 0 0) (.int .i64 0) (.slice none 0 0) (.slice none 0 0) := RB.out.ch H7.out (PV.out.nbQ qm RB.out (by decide) (by decide))
     have k0 := PE.x.c0
     have y0 := RE.c0
     have u0 := RE.fr 0
     have k1 := PE.x.c1
     have y1 := RE.c1
     have u1 := RE.fr 1
     have k2 := PE.x.c2
     have y2 := RE.c2
     have u2 := RE.fr 2
     have k3 := PE.x.c3
     have y3 := RE.c3
     have u3 := RE.fr 3
     have X9 : Hid (Box4 ((((v6.setCell ⟨rb, 0, none⟩ (.slice (some ⟨gr, 0, none⟩) s.n rc)).setCell ⟨rb, 1, none⟩ (.int .i64 s.t)).setCell ⟨rb, 2, none⟩ (.slice wa s.m wc)).setCell ⟨rb, 3, none⟩ (.slice (some ⟨gq, 0, none⟩) s.l qc)) rb 28 (.slice (some ⟨gr, 0, none⟩) s.n rc) (.int .i64 s.t) (.slice wa s.m wc) (.slice (some ⟨gq, 0, none⟩) s.l qc)) := (((RE.set0 _).set1 _).set2 _).set3 _
     have Q9 : Hid (RetR B s _ (.returned (.tuple #[.agg #[.slice (some ⟨gr, 0, none⟩) s.n rc, .int .i64 s.t, .slice wa s.m wc, .slice (some ⟨gq, 0, none⟩) s.l qc], .int .i64 0])) ((((v6.setCell ⟨rb, 0, none⟩ (.slice (some ⟨gr, 0, none⟩) s.n rc)).setCell ⟨rb, 1, none⟩ (.int .i64 s.t)).setCell ⟨rb, 2, none⟩ (.slice wa s.m wc)).setCell ⟨rb, 3, none⟩ (.slice (some ⟨gq, 0, none⟩) s.l qc))) := retR_end (s' := { s with Q := updE s.Q q ((s.Q q).hear s.n s.t k (s.R k).nc (s.R k).nt) }) (ActS.reply (a := ⟨4, k, (q : Int)⟩) k q hk rfl rfl qm rfl HU.out HE.out HX.out) PE RE
     have B9 : Hid (Below B w ((((v6.setCell ⟨rb, 0, none⟩ (.slice (some ⟨gr, 0, none⟩) s.n rc)).setCell ⟨rb, 1, none⟩ (.int .i64 s.t)).setCell ⟨rb, 2, none⟩ (.slice wa s.m wc)).setCell ⟨rb, 3, none⟩ (.slice (some ⟨gq, 0, none⟩) s.l qc))) := below_res (BV.out.2.trans (H7.out.toBelow (fun g z => (PR.geQ PV.out qm g z).1) BV.out.1)) (by have := DI.out; omega) _ _ _ _
     clear PE RE PV KQH RB BV KY AB OK DI HSB HU HE HX EV IE0 IK K7 I7 H7 O5 HW5 HNE NL AE HN1 HJ WE I9
     go_wp2
     exact ret_cell2 (b := rb) Try.results74 rfl rfl (Box4.loadsv X9.out) ⟨Q9.out, B9.out⟩
  ·have hge : 0 ≤ (s.Q q).en := by have h1 := tm.1.1; have h2 := tm.2; omega
   have HE : Hid (¬ (s.Q q).en = -1) := he
   clear he tm
   go_upto_region 49 with fail
   clear c0 c3 x0 x1 x2 q4
   have PE := PV.out
   have RE : Box4 v rb 28 (.slice none 0 0) (.int .i64 0) (.slice none 0 0) (.slice none 0 0) := RB.out
   have k0 := PE.x.c0
   have y0 := RE.c0
   have u0 := RE.fr 0
   have k1 := PE.x.c1
   have y1 := RE.c1
   have u1 := RE.fr 1
   have k2 := PE.x.c2
   have y2 := RE.c2
   have u2 := RE.fr 2
   have k3 := PE.x.c3
   have y3 := RE.c3
   have u3 := RE.fr 3
   have X9 : Hid (Box4 ((((v.setCell ⟨rb, 0, none⟩ (.slice (some ⟨gr, 0, none⟩) s.n rc)).setCell ⟨rb, 1, none⟩ (.int .i64 s.t)).setCell ⟨rb, 2, none⟩ (.slice wa s.m wc)).setCell ⟨rb, 3, none⟩ (.slice (some ⟨gq, 0, none⟩) s.l qc)) rb 28 (.slice (some ⟨gr, 0, none⟩) s.n rc) (.int .i64 s.t) (.slice wa s.m wc) (.slice (some ⟨gq, 0, none⟩) s.l qc)) := (((RE.set0 _).set1 _).set2 _).set3 _
   have Q9 : Hid (RetR B s _ (.returned (.tuple #[.agg #[.slice (some ⟨gr, 0, none⟩) s.n rc, .int .i64 s.t, .slice wa s.m wc, .slice (some ⟨gq, 0, none⟩) s.l qc], .int .i64 9])) ((((v.setCell ⟨rb, 0, none⟩ (.slice (some ⟨gr, 0, none⟩) s.n rc)).setCell ⟨rb, 1, none⟩ (.int .i64 s.t)).setCell ⟨rb, 2, none⟩ (.slice wa s.m wc)).setCell ⟨rb, 3, none⟩ (.slice (some ⟨gq, 0, none⟩) s.l qc))) := retR_end (s' := s) (ActS.reply2 (a := ⟨4, k, (q : Int)⟩) k q hk rfl rfl qm rfl HU.out (.inl HE.out)) PE RE
   have B9 : Hid (Below B w ((((v.setCell ⟨rb, 0, none⟩ (.slice (some ⟨gr, 0, none⟩) s.n rc)).setCell ⟨rb, 1, none⟩ (.int .i64 s.t)).setCell ⟨rb, 2, none⟩ (.slice wa s.m wc)).setCell ⟨rb, 3, none⟩ (.slice (some ⟨gq, 0, none⟩) s.l qc))) := below_res (BV.out.2) (by have := DI.out; omega) _ _ _ _
   clear PE RE PV AB RB KY BV OK DI HSB HU HE KQH HN1
   go_wp2
   exact ret_cell2 (b := rb) Try.results74 rfl rfl (Box4.loadsv X9.out) ⟨Q9.out, B9.out⟩
end Go.Proofs.Ytedncfcmhaaobaa
