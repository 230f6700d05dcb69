/-
  Texts of the proof, joined: QuDs.
-/
import Derived.Test.YtedncfcmhaaobaaV49
import Derived.Test.YtedncfcmhaaobaaV17
import Derived.Deep.Cut
namespace Go.Proofs.Ytedncfcmhaaobaa
open Go.ChangeShapes Go.WideShapes Go.ChangeAt Go.RowKit
set_option linter.unusedVariables false
theorem Try.infoQa : (Try.prog.info? 41).map (fun i => (i.zero, i.size, i.bytes)) = some (some (.agg #[.int .i64 0, .int .i64 0, .int .i64 0]), 3, 24) := by kernel_rfl
set_option maxRecDepth 100000 in
theorem appQa (w : World) (B : Nat) (v : Value) (n q : Nat) (R : Nat → Qa) (x : Qa) (hB : B ≤ w.heap.size) (hn : n ≤ 100000) (h : EO w B 41 3 v n (quF R)) (hx : ∀ j, j < 3 → w.cell? ⟨q, 0 + j, none⟩ = some (quV x j)) :
  ∃ v' w', (∀ ty, (Builtin.append_ #[32, 32] ty #[v, .slice (some ⟨q, 0, none⟩) 1 1]).run Try.prog w = .ok v' w') ∧ EO w' B 41 3 v' (n + 1) (quF (updE R n x)) ∧ w.grownBy w' v.ownBlock ∧ (v'.ownBlock = v.ownBlock ∨ v'.ownBlock = some w.heap.size) := by
 obtain ⟨i, hi, hz, hsz, hby⟩ := info_parts Try.infoQa
 obtain ⟨v', w', hr, ho, hg, _, hloc⟩ := run_append_own_at (P := Try.prog) w B 32 32 41 i _ 3 24 Try.underlying32 hi hz hsz hby rfl (by decide) v n _ h ⟨q, 0, none⟩ 1 1 ((List.range 3).map (quV x)) (by simp) (fun j u hj => by
  rw [Go.WideShapes.add_plain]
  rw [List.getElem?_map, Option.map_eq_some_iff] at hj
  obtain ⟨b, hb, rfl⟩ := hj
  obtain ⟨hj', rfl⟩ := List.getElem?_eq_some_iff.1 hb
  rw [List.getElem_range]
  exact hx j (by simpa using hj')) (fun u hu => by
   obtain ⟨j, hj, rfl⟩ := List.mem_map.1 hu
   have := List.mem_range.1 hj
   rcases (show j = 0 ∨ j = 1 ∨ j = 2 by omega) with rfl | rfl | rfl <;> rfl) (by unfold maxLen; omega) (by omega) hB
 refine ⟨v', w', fun ty => hr, ?_, hg, hloc⟩
 unfold EO
 rw [elv_snoc, elv_congr (G := quF R) (fun i hi j hj => by unfold quF updE; rw [if_neg (by omega)])]
 have e : (List.range 3).map (quF (updE R n x) n) = (List.range 3).map (quV x) := by unfold quF updE; simp
 rw [e]
 exact ho
theorem push_q {w0 w : World} {b : Nat} {a : Option Addr} {len cap A : Nat} {z : Nat → Nat} (k : Dk0 w0 b a len z) (h : Dq w0 b a len cap z A w) {pa : Option Addr} {q pc : Nat} {R : Nat → Qa} (hE : EO w w0.heap.size 41 3 (.slice pa q pc) q (quF R)) (hq : q ≤ 10000) (x y t : Int) :
  ∃ v' w', (∀ ty, (Builtin.append_ #[32, 32] ty #[.slice pa q pc, .slice (some ⟨w.heap.size, 0, none⟩) 1 1]).run Try.prog (w.alloc (.cells #[.int .i64 x, .int .i64 y, .int .i64 t] 41)) = .ok v' w') ∧ EO w' w0.heap.size 41 3 v' (q + 1) (quF (updE R q ⟨x, y, t⟩)) ∧ Dq w0 b a len cap z A w' := by
 have hA : Below w.heap.size w (w.alloc (.cells #[.int .i64 x, .int .i64 y, .int .i64 t] 41)) := (Below.refl _ _).alloc (Nat.le_refl _) _
 obtain ⟨v', w', hr, ho, hg, hl⟩ := appQa (w.alloc (.cells #[.int .i64 x, .int .i64 y, .int .i64 t] 41)) w0.heap.size (.slice pa q pc) q w.heap.size R ⟨x, y, t⟩ (Nat.le_trans h.2.2.size hA.size) (by omega) (hE.below hA) (fun j hj => by
  rw [Nat.zero_add, World.cell?_alloc_at (w := w) _ _ w.heap.size j rfl]
  rcases (show j = 0 ∨ j = 1 ∨ j = 2 by omega) with rfl | rfl | rfl <;> rfl)
 exact ⟨v', w', hr, ho, (h.step k (hA.mono h.2.2.size)).step k ((Below.refl _ _).grown hg (Nat.le_trans h.2.2.size hA.size) (fun g e => (hE.ge g e).1))⟩
theorem Dk0.up {w0 w : World} {b : Nat} {a : Option Addr} {len : Nat} {z : Nat → Nat} (k : Dk0 w0 b a len z) (h : w0.heap.size ≤ w.heap.size) : Dk0 w b a len z := ⟨k.hz, k.hl, Nat.lt_of_lt_of_le k.hb h, fun x h1 h2 => ⟨Nat.lt_of_lt_of_le (k.hk x h1 h2).1 h, (k.hk x h1 h2).2⟩⟩
theorem Dq.trans {w0 w w' : World} {b : Nat} {a : Option Addr} {len cap A A' : Nat} {z : Nat → Nat} (h : Dq w0 b a len cap z A w) (h' : Dq w b a len cap z A' w') : Dq w0 b a len cap z A' w' := ⟨h'.1, h'.2.1, h.2.2.trans h'.2.2⟩
theorem Dq.up {w0 w : World} {b : Nat} {a : Option Addr} {len cap A A' : Nat} {z : Nat → Nat} (h : Dq w0 b a len cap z A w) (hA : A ≤ A') : Dq w0 b a len cap z A' w := ⟨h.1.mono hA, h.2⟩
theorem size_q (b : Nat) (a : Option Addr) (len cap A : Nat) (hl : len ≤ maxLen) (w : World) (h : SrcA w b a len cap A) :
  Calls Try.prog 56 #[.pointer (some ⟨b, 0, none⟩), .int .i64 70] w fun e w' => (∃ r : Nat, 1 ≤ r ∧ r ≤ 70 ∧ e = .returned (.int .i64 (r : Int))) ∧ w = w' := by
 have c0 := h.load0
 have hl' : (len : Int) ≤ 9223372036854775807 := by unfold maxLen at hl; omega
 have et : (len : Int).tdiv 12 = ((len / 12 : Nat) : Int) := (Int.ofNat_tdiv len 12).symm
 have eb : 12 * (len / 12) ≤ len := Nat.mul_div_le _ _
 have em : (len : Int) / 12 = ((len / 12 : Nat) : Int) := by omega
 clear h
 generalize len / 12 = M at *
 have y1 : (M : Int) + 1 ≤ 9223372036854775807 := by omega
 have y2 : (M : Int) ≤ 1000000000000000000 := by omega
 by_cases hM : (70 : Int) < 1 + (M : Int)
 ·go_enter Try.func56, Try.ntmps56
  go_wp2
  go_ret
  refine ⟨⟨70, by omega, by omega, ?_⟩, rfl⟩
  go_num
 ·go_enter Try.func56, Try.ntmps56
  go_wp2
  go_ret
  refine ⟨⟨1 + M, by omega, by omega, ?_⟩, rfl⟩
  go_num
def RetQs (e : Ending) (w : World) : Prop := ∃ (m : Nat) (R : Nat → Qa) (aa : Option Addr) (ac : Nat), m ≤ 200 ∧ e = .returned (.slice aa m ac) ∧ SlP aa m ac ∧ Els w 3 aa m (quF R)
def LsQ (w0 : World) (q : Nat) (v : Value) (w : World) : Prop := ∃ R : Nat → Qa, EO w w0.heap.size 41 3 v q (quF R)
set_option maxRecDepth 100000 in
set_option maxHeartbeats 4000000 in
theorem quActs_q (n : Nat) (hn : 1 ≤ n) (hn' : n ≤ 7) (b : Nat) (a : Option Addr) (len cap : Nat) (z : Nat → Nat) (w : World) (k : Dk0 w b a len z) (h : SrcA w b a len cap 0) (hc : Code8 w a len z) :
  Calls Try.prog 28 #[.pointer (some ⟨b, 0, none⟩), .int .i64 (n : Int)] w fun e w' => RetQs e w' ∧ OnlyB b w w' := by
 have KK : Hid (Dk0 w b a len z) := k
 have HN : Hid (1 ≤ n ∧ n ≤ 7) := ⟨hn, hn'⟩
 have NX : Hid (∀ (m A : Nat) (v : World), 1 ≤ m → m ≤ 256 → A ≤ 9000 → Dq w b a len cap z A v → Calls Try.prog 55 #[.pointer (some ⟨b, 0, none⟩), .int .i64 (m : Int)] v fun e w' => (∃ r : Nat, r < m ∧ e = .returned (.int .i64 (r : Int))) ∧ Dq w b a len cap z (A + 1) w' ∧ OnlyB b v w') := fun m A v h1 h2 h3 h => next_q w m h1 h2 b a len cap A z KK.out (by omega) v h
 have CX : Hid (∀ (A : Nat) (v : World), A ≤ 9000 → Dq w b a len cap z A v → Calls Try.prog 58 #[.pointer (some ⟨b, 0, none⟩), .int .i64 9] v fun e w' => (∃ r : Bool, e = .returned (.bool r)) ∧ Dq w b a len cap z (A + 1) w' ∧ OnlyB b v w') := fun A v h3 h => chance_q w 9 (by omega) (by omega) b a len cap A z KK.out (by omega) v h
 have QX : Hid (∀ (A : Nat) (v : World), A ≤ 4000 → Dq w b a len cap z A v → Calls Try.prog 57 #[.pointer (some ⟨b, 0, none⟩), .int .i64 (n : Int)] v fun e w' => (∃ x : Qa, e = .returned (.agg #[.int .i64 x.k, .int .i64 x.r, .int .i64 x.n])) ∧ Dq w b a len cap z (A + 4) w' ∧ OnlyB b v w') := fun A v h3 h => (quAct_q n HN.out.1 HN.out.2 b a len cap A z v (KK.out.up h.2.2.size) (by omega) h.1 h.2.1).mono fun e w' q => ⟨q.1, h.trans q.2, q.2.onlyB⟩
 have SZ : Hid (∀ v : World, SrcA v b a len cap 0 → Calls Try.prog 56 #[.pointer (some ⟨b, 0, none⟩), .int .i64 70] v fun e w' => (∃ r : Nat, 1 ≤ r ∧ r ≤ 70 ∧ e = .returned (.int .i64 (r : Int))) ∧ v = w') := fun v h => size_q b a len cap 0 KK.out.hl v h
 have bw : Below w.heap.size w (w.alloc (.cells #[] 41)) := (Below.refl _ _).alloc (Nat.le_refl _) _
 have DQ : Hid (Dq w b a len cap z 0 (w.alloc (.cells #[] 41))) := Dq.step k ⟨h, hc, ChB.refl _ _⟩ bw
 have RO : Hid (EO (w.alloc (.cells #[] 41)) w.heap.size 41 3 (.slice (some ⟨w.heap.size, 0, none⟩) 0 0) 0 (quF (fun _ => ⟨0, 0, 0⟩))) := EO.lit w _ _ _ (Nat.le_refl _) _
 have hun : Try.prog.underlying 32 = some (.slice (Try.prog.elem 32)) := by kernel_rfl
 have hsz : ∀ w, (sizeOf (Try.prog.elem 32)).run Try.prog w = .ok 3 w := fun w => by
  obtain ⟨i, hi, hz, hsz, hby⟩ := info_parts Try.infoQa
  rw [show Try.prog.elem 32 = 41 by kernel_rfl]
  simp [sizeOf, typeInfo, hi, hsz]
 have HU : Hid (∀ (a : Option Addr) (n c : Nat) (h : SlP a n c) (k : Nat) (hk : k ≤ c) (w : World), (Instr.slice 32 (.slice a n c) none (some (.int .i64 (k : Int))) none).run Try.prog w = .ok (.slice a k c) w) := fun a n c h k hk w => run_cut_to 32 hun 3 hsz h k hk w
 clear bw h hc k hun hsz hn hn'
 go_enter Try.func28, Try.ntmps28
 go_wp2_with fail
 generalize (w.alloc (.cells #[] 41)) = v at *
 refine (SZ.out _ DQ.out.1).mono ?_
 rintro e w1 ⟨⟨r1, hr1, hr1', rfl⟩, rfl⟩
 obtain ⟨n3, hn3⟩ : ∃ n3 : Nat, n3 = r1 + 8 := ⟨_, rfl⟩
 have er : (r1 : Int) + 8 = (n3 : Int) := by omega
 have HR1 : Hid (1 ≤ n3 ∧ n3 ≤ 78) := ⟨by omega, by omega⟩
 have b1 : (r1 : Int) ≤ 70 := by omega
 clear hr1 hr1' SZ hn3
 go_wp2_with fail
 refine (NX.out n3 0 _ HR1.out.1 (by have := HR1.out; omega) (by omega) DQ.out).mono ?_
 rintro e w2 ⟨⟨r, hr, rfl⟩, hs, ho⟩
 have HR : Hid (r ≤ 77) := by show _ ≤ _; have := HR1.out; omega
 have RO1 : Hid (LsQ w 0 (.slice (some ⟨w.heap.size, 0, none⟩) 0 0) w2) := ⟨_, RO.out.onlyB ho KK.out.hb⟩
 have D1 : Hid (Dq w b a len cap z 1 w2) := hs
 clear hs ho RO DQ hr er HR1 b1
 go_wp2
 go_loopw [5, 6] (fun v i wr => ∃ (t q : Nat), t ≤ r ∧ i = .int .i64 ((r - t : Nat) : Int) ∧ q ≤ 220 ∧ LsQ w q v wr ∧ Dq w b a len cap z (1 + 8 * t) wr) (fun _ i _ => (intOf i).toNat)
 case atStart => exact ⟨0, 0, by omega, rfl, by omega, RO1.out, D1.out⟩
 case round =>
  clear RO1 D1
  obtain ⟨t, q, ht, rfl, hq, ⟨R, hE⟩, hD⟩ := hrel
  obtain ⟨pa, pc, rfl⟩ := hE.form
  have EQ : Hid (EO wr w.heap.size 41 3 (.slice pa q pc) q (quF R)) := hE
  have DD : Hid (Dq w b a len cap z (1 + 8 * t) wr) := hD
  have HQ : Hid (q ≤ 220) := hq
  clear hE hD hq
  by_cases hstop : t < r ∧ q < 200
  ·have hlt : t < r := hstop.1
   have hq2 : (q : Int) < 200 := by have := hstop.2; omega
   have e1 : (0 : Int) < ((r - t : Nat) : Int) := by omega
   have e2 : ((r - t : Nat) : Int) - 1 = ((r - (t + 1) : Nat) : Int) := by omega
   have e3 : ((r - t : Nat) : Int) ≤ 77 := by have := HR.out; omega
   have Q2 : Hid (q < 200 ∧ t < r) := ⟨hstop.2, hlt⟩
   clear hstop
   go_wp2_with fail
   refine (QX.out (1 + 8 * t) _ (by have := HR.out; omega) DD.out).mono ?_
   rintro e w3 ⟨⟨x, rfl⟩, hs, ho⟩
   obtain ⟨v9, w4, hr9, hE9, hD9⟩ := push_q KK.out hs (EQ.out.onlyB ho KK.out.hb) (by have := HQ.out; omega) x.k x.r x.n
   obtain ⟨pb, pd, rfl⟩ := hE9.form
   have HAP : Hid _ := hr9
   have E9 : Hid (EO w4 w.heap.size 41 3 (.slice pb (q + 1) pd) (q + 1) (quF (updE R q ⟨x.k, x.r, x.n⟩))) := hE9
   have D9 : Hid (Dq w b a len cap z (1 + 8 * t + 4) w4) := hD9
   clear hs ho hr9 hE9 hD9 EQ DD
   go_wp2_with (at_builtin; refine Lib.wpList_append_run _ rfl (.tmp 24) (.tmp 28) _ _ rfl _ _ rfl rfl _ _ (HAP.out _) ?_)
   clear HAP
   refine (CX.out (1 + 8 * t + 4) _ (by have := HR.out; omega) D9.out).mono ?_
   rintro e w5 ⟨⟨rb, rfl⟩, hs, ho⟩
   replace E9 : Hid (EO w5 w.heap.size 41 3 (.slice pb (q + 1) pd) (q + 1) (quF (updE R q ⟨x.k, x.r, x.n⟩))) := E9.out.onlyB ho KK.out.hb
   replace D9 : Hid (Dq w b a len cap z (1 + 8 * t + 5) w5) := hs
   clear hs ho
   obtain ⟨R1, hR1⟩ : ∃ R1, R1 = updE R q ⟨x.k, x.r, x.n⟩ := ⟨_, rfl⟩
   rw [← hR1] at E9
   clear hR1
   cases rb
   ·go_wp2
    go_roundw
    case rel => exact ⟨t + 1, q + 1, by have := Q2.out; omega, by go_num, by have := Q2.out; omega, ⟨R1, E9.out⟩, D9.out.up (by omega)⟩
    case measure => have := Q2.out; simp [intOf]; omega
   ·go_wp2_with fail
    refine (NX.out n (1 + 8 * t + 5) _ HN.out.1 (by have := HN.out; omega) (by have := HR.out; omega) D9.out).mono ?_
    rintro e w6 ⟨⟨kk, hkk, rfl⟩, hs, ho⟩
    replace E9 : Hid (EO w6 w.heap.size 41 3 (.slice pb (q + 1) pd) (q + 1) (quF R1)) := E9.out.onlyB ho KK.out.hb
    replace D9 : Hid (Dq w b a len cap z (1 + 8 * t + 6) w6) := hs
    have KN : Hid (kk < n) := hkk
    clear hs ho hkk
    go_wp2_with fail
    refine (NX.out 2 (1 + 8 * t + 6) _ (by omega) (by omega) (by have := HR.out; omega) D9.out).mono ?_
    rintro e w7 ⟨⟨rn, hrn, rfl⟩, hs, ho⟩
    obtain ⟨v9, w8, hr9, hE9, hD9⟩ := push_q KK.out hs (E9.out.onlyB ho KK.out.hb) (by have := HQ.out; omega) 6 (kk : Int) (rn : Int)
    obtain ⟨pe, pf, rfl⟩ := hE9.form
    have HAP : Hid _ := hr9
    have E8 : Hid (LsQ w (q + 2) (.slice pe (q + 2) pf) w8) := ⟨_, hE9⟩
    have D8 : Hid (Dq w b a len cap z (1 + 8 * t + 7) w8) := hD9
    clear hs ho hr9 hE9 hD9 E9 D9 hrn
    go_wp2_with (at_builtin; refine Lib.wpList_append_run _ rfl (.tmp 35) (.tmp 40) _ _ rfl _ _ rfl rfl _ _ (HAP.out _) ?_)
    clear HAP
    go_loopw [5, 8] (fun v j wi => ∃ s : Nat, s ≤ n ∧ j = .int .i64 (s : Int) ∧ LsQ w (q + 2 + s) v wi ∧ Dq w b a len cap z (1 + 8 * t + 7) wi) (fun _ j _ => n - (intOf j).toNat)
    case atStart => exact ⟨0, by omega, rfl, E8.out, D8.out⟩
    case round =>
     clear E8 D8
     obtain ⟨s, hs, rfl, ⟨R2, hE2⟩, hD2⟩ := hrel
     obtain ⟨pg, ph, rfl⟩ := hE2.form
     by_cases hlt2 : s < n
     ·have hlt3 : (s : Int) < (n : Int) := by omega
      obtain ⟨s2, hs2⟩ : ∃ s2 : Nat, s2 = kk + s := ⟨_, rfl⟩
      have f1 : (kk : Int) + (s : Int) = (s2 : Int) := by omega
      obtain ⟨s3, hs3⟩ : ∃ s3 : Nat, s3 = s2 % n := ⟨_, rfl⟩
      have f2 : (s2 : Int) % (n : Int) = (s3 : Int) := by rw [hs3]; exact (Int.natCast_emod s2 n).symm
      have f3 : (s2 : Int).tmod (n : Int) = (s3 : Int) := by rw [hs3]; exact (Int.ofNat_tmod s2 n).symm
      have f4 : ((n : Int) == 0) = false := by have := HN.out; simp; omega
      have f5 : (s2 : Int) ≤ 14 := by have := HN.out; have := KN.out; omega
      have f6 : ¬ (n : Int) = 0 := by have := HN.out; omega
      have f7 : (s : Int) ≤ 7 := by have := HN.out; omega
      obtain ⟨v9, w9, hr9, hE9, hD9⟩ := push_q KK.out hD2 hE2 (by have := HQ.out; have := HN.out; omega) 7 (kk : Int) (s3 : Int)
      have HAP : Hid _ := hr9
      have E9 : Hid (LsQ w (q + 2 + (s + 1)) v9 w9) := ⟨_, hE9⟩
      have D9 : Hid (Dq w b a len cap z (1 + 8 * t + 7) w9) := hD9
      have HS : Hid (s < n) := hlt2
      clear hr9 hE9 hD9 hE2 hD2 hs2 hs3 hlt2
      go_wp2_with (at_builtin; refine Lib.wpList_append_run _ rfl (.tmp 47) (.tmp 55) _ _ rfl _ _ rfl rfl _ _ (HAP.out _) ?_)
      go_roundw
      case rel => exact ⟨s + 1, by have := HS.out; omega, by go_num, E9.out, D9.out⟩
      case measure => have := HS.out; simp [intOf]; omega
     ·obtain rfl : n = s := by omega
      have hlt3 : ¬ (n : Int) < (n : Int) := by omega
      have E9 : Hid (LsQ w (q + 2 + n) (.slice pg (q + 2 + n) ph) wr) := ⟨_, hE2⟩
      have D9 : Hid (Dq w b a len cap z (1 + 8 * t + 7) wr) := hD2
      clear hE2 hD2
      go_wp2
      go_roundw
      case rel => exact ⟨t + 1, q + 2 + n, by have := Q2.out; omega, by go_num, by have := Q2.out; have := HN.out; omega, E9.out, D9.out.up (by omega)⟩
      case measure => have := Q2.out; simp [intOf]; omega
  ·obtain ⟨kq, hkq⟩ : ∃ kq : Nat, kq = min q 200 := ⟨_, rfl⟩
   have hm : min (q : Int) 200 = (kq : Int) := by omega
   have hsl := EQ.out.slp
   have hcut : Hid (∀ w : World, (Instr.slice 32 (.slice pa q pc) none (some (.int .i64 (kq : Int))) none).run Try.prog w = .ok (.slice pa kq pc) w) := fun w => HU.out _ _ _ hsl kq (by have := hsl.le; omega) w
   have Q : Hid (RetQs (.returned (.slice pa kq pc)) wr ∧ OnlyB b w wr) := ⟨⟨kq, R, pa, pc, by omega, rfl, ⟨hsl.z, hsl.f, by have := hsl.le; omega, hsl.mx⟩, (EQ.out.els).less (by omega)⟩, DD.out.onlyB⟩
   have q220 : (q : Int) ≤ 220 := by have := HQ.out; omega
   by_cases htr : t < r
   ·have hq2 : ¬ (q : Int) < 200 := by have : ¬ q < 200 := fun z => hstop ⟨htr, z⟩; omega
    have e1 : (0 : Int) < ((r - t : Nat) : Int) := by omega
    have hc := hcut.out
    clear EQ DD hsl hstop hkq QX CX NX htr
    go_wp2
    go_ret
    exact Q.out
   ·obtain rfl : t = r := by omega
    have e1 : ¬ (0 : Int) < ((t - t : Nat) : Int) := by omega
    have hc := hcut.out
    clear EQ DD hsl hstop hkq QX CX NX htr
    go_wp2
    go_ret
    exact Q.out
set_option maxRecDepth 100000 in
theorem quActsOf_q (n : Nat) (hn : 1 ≤ n ∧ n ≤ 7) (a : Option Addr) (len cap : Nat) (z : Nat → Nat) (hz : ∀ i, z i < 256) (hl : len ≤ maxLen) (w : World) (h : Code8 w a len z) :
  Calls Try.prog 8 #[.slice a len cap, .int .i64 (n : Int)] w fun e w' => RetQs e w' ∧ Below w.heap.size w w' := by
 have SC : Hid (Calls Try.prog 27 #[.slice a len cap] w fun e w' => e = .returned (.pointer (some ⟨w.heap.size, 0, none⟩)) ∧ Src w' w.heap.size a len cap 0 (len % 1000) ∧ Below w.heap.size w w') := source_any a len cap hl w
 have LV : Hid (∀ w' : World, Dk0 w' w.heap.size a len z → SrcA w' w.heap.size a len cap 0 → Code8 w' a len z → Calls Try.prog 28 #[.pointer (some ⟨w.heap.size, 0, none⟩), .int .i64 (n : Int)] w' fun e w'' => RetQs e w'' ∧ OnlyB w.heap.size w' w'') := fun w' h1 h2 h3 => quActs_q n hn.1 hn.2 _ a len cap z w' h1 h2 h3
 have HC : Hid (Code8 w a len z) := h
 have HL : Hid (len ≤ maxLen ∧ ∀ i, z i < 256) := ⟨hl, hz⟩
 clear h hl hz hn
 go_enter Try.func8, Try.ntmps8
 go_wp2_with fail
 refine SC.out.mono ?_
 rintro e w1 ⟨rfl, hs, hb⟩
 have HS : Hid (SrcA w1 w.heap.size a len cap 0) := ⟨0, len % 1000, by omega, by omega, hs⟩
 have HD : Hid (Dk0 w1 w.heap.size a len z) := ⟨HL.out.2, HL.out.1, hs.lt, fun x h1 h2 => by
  obtain ⟨cb, off, e, hc⟩ := HC.out 0 h1
  rw [e] at h2
  cases h2
  have := strBlock hc
  have := hb.size
  exact ⟨by dsimp only at *; omega, by dsimp only at *; omega⟩⟩
 have H8 : Hid (Code8 w1 a len z) := HC.out.below hb
 have B1 : Hid (Below w.heap.size w w1) := hb
 clear hs hb SC HC HL
 go_wp2_with fail
 refine (LV.out _ HD.out HS.out H8.out).mono ?_
 rintro e w2 ⟨⟨m, R, aa, ac, hm, rfl, hsl, he⟩, hon⟩
 have Q : Hid (RetQs (.returned (.slice aa m ac)) w2 ∧ Below w.heap.size w w2) := ⟨⟨m, R, aa, ac, hm, rfl, hsl, he⟩, B1.out.trans (hon.toBelow (Nat.le_refl _) B1.out.size)⟩
 clear hon LV HS HD H8 B1 he hm hsl
 go_wp2
 go_ret
 exact Q.out
end Go.Proofs.Ytedncfcmhaaobaa
