/-
  Texts of the proof, joined: RunBi.
-/
import Derived.Test.YtpngjkhncfbnpaaDoorV30
import Derived.Test.YtpngjkhncfbnpaaDoorV38
import Derived.Test.YtpngjkhncfbnpaaDoorV43
namespace Go.Proofs.YtpngjkhncfbnpaaDoor
open Go.ChangeShapes Go.WideShapes Go.ChangeAt Go.RowKit
set_option linter.unusedVariables false
def RunA (b : Bk) (m : Nat) (C : Nat → Int) (cd : Int) (B : Nat) (e : Ending) (w : World) : Prop := ∃ a0 c0 a1 c1 ac cc, e = .returned (.tuple #[.agg #[.slice a0 b.nr c0, .slice a1 b.ns c1], .slice ac m cc, .int .i64 cd]) ∧ BankE w B b.nr b.ns b (.slice a0 b.nr c0) (.slice a1 b.ns c1) ∧ IE w B (.slice ac m cc) m C
theorem RunA.empty (w : World) (B : Nat) (cd : Int) (C : Nat → Int) : RunA bkZ 0 C cd B (.returned (.tuple #[.agg #[.slice none 0 0, .slice none 0 0], .slice none 0 0, .int .i64 cd])) w := ⟨none, 0, none, 0, none, 0, rfl, ⟨EO.nil _ _ _ _ _, EO.nil _ _ _ _ _, fun g e => by cases e⟩, EO.nil _ _ _ _ _⟩
theorem Els.rqAt {w : World} {a : Option Addr} {n : Nat} {RQ : Nat → Rqst} (h : Els w 5 a n (rqF RQ)) {k : Nat} (hk : k < n) : ∃ b off, a = some ⟨b, off, none⟩ ∧ w.cell? ⟨b, off + k * 5, none⟩ = some (.int .i64 (RQ k).s) ∧ w.cell? ⟨b, off + k * 5 + 1, none⟩ = some (.int .i64 (RQ k).q) ∧ w.cell? ⟨b, off + k * 5 + 2, none⟩ = some (.int .i64 (RQ k).v) ∧ w.cell? ⟨b, off + k * 5 + 3, none⟩ = some (.int .i64 (RQ k).c) ∧ w.cell? ⟨b, off + k * 5 + 4, none⟩ = some (.string (RQ k).r) := by
  obtain ⟨b, off, ha, hc⟩ := h.opened (by omega)
  exact ⟨b, off, ha, hc k hk 0 (by omega), hc k hk 1 (by omega), hc k hk 2 (by omega), hc k hk 3 (by omega), hc k hk 4 (by omega)⟩
set_option maxRecDepth 100000 in
set_option maxHeartbeats 8000000 in
theorem implRunB_any (a : Option Addr) (n c : Nat) (RQ : Nat → Rqst) (b : Bk) (m : Nat) (C : Nat → Int) (cd : Int) (hD : RunD RQ n b m C cd) (hn : n ≤ maxLen) (w : World) (h : Els w 5 a n (rqF RQ)) :
    Calls Tryd.prog 19 #[.slice a n c] w fun e w' => RunA b m C cd w.heap.size e w' ∧ Below w.heap.size w w' := by
  have W0 : Hid (Below w.heap.size w (w.alloc (.cells #[.slice none 0 0, .slice none 0 0] 46))) := (Below.refl _ _).alloc (Nat.le_refl _) _
  have X0 : Hid (Box2 (w.alloc (.cells #[.slice none 0 0, .slice none 0 0] 46)) w.heap.size 46 (.slice none 0 0) (.slice none 0 0)) := Box2.made _ _ _ _
  have HE : Hid (Els w 5 a n (rqF RQ)) := h
  unfold maxLen at hn
  clear h
  rcases hD with ⟨h1, rfl, rfl, rfl, rfl⟩ | ⟨h1, h2, rfl, rfl, rfl, rfl⟩ | ⟨h1, hbad, rfl, rfl, rfl, rfl⟩ | ⟨h1, hok, rfl, hm, rfl, rfl⟩
  · have e1 : (4096 : Int) < (n : Int) := by omega
    go_enter Tryd.func19, Tryd.ntmps19
    go_wp2
    exact ret_cellTT (b := w.heap.size) Tryd.results19 rfl rfl rfl (Box2.loadbk X0.out) ⟨RunA.empty _ _ _ _, W0.out⟩
  · have e1 : ¬ (4096 : Int) < (n : Int) := by omega
    have e2 : (120 : Int) < (n : Int) := by omega
    go_enter Tryd.func19, Tryd.ntmps19
    go_wp2
    exact ret_cellTT (b := w.heap.size) Tryd.results19 rfl rfl rfl (Box2.loadbk X0.out) ⟨RunA.empty _ _ _ _, W0.out⟩
  all_goals
    first
      | (replace hm := hm.symm
         subst hm)
      | skip
    have e1 : ¬ (4096 : Int) < (n : Int) := by omega
    have e2 : ¬ (120 : Int) < (n : Int) := by omega
    have RO : Hid (∀ (q : Rqst) (z : Bool) (w : World), z = okB (toRq q).Ok → Calls Tryd.prog 50 #[.agg #[.int .i64 q.s, .int .i64 q.q, .int .i64 q.v, .int .i64 q.c, .string q.r]] w fun e w' => e = .returned (.bool z) ∧ Below w.heap.size w w') := fun q z w hz => by rw [hz]; exact requestOK_any (toRq q) w
    go_enter Tryd.func19, Tryd.ntmps19
    go_wp2_with fail
    generalize (w.alloc (.cells #[.slice none 0 0, .slice none 0 0] 46)) = v at *
    go_loopw [21] (fun iv wr => ∃ k : Nat, k ≤ n ∧ iv = .int .i64 (k : Int) ∧ (∀ i, i < k → (toRq (RQ i)).Ok) ∧ Below v.heap.size v wr) (fun iv _ => n - (intOf iv).toNat)
    case atStart => exact ⟨0, by omega, rfl, fun i hi => absurd hi (by omega), Below.refl _ _⟩
    case round =>
      obtain ⟨k, hk, rfl, hj, hb⟩ := hrel
      have HJ : Hid (∀ i, i < k → (toRq (RQ i)).Ok) := hj
      have X1 : Hid (Box2 wr w.heap.size 46 (.slice none 0 0) (.slice none 0 0)) := X0.out.below hb
      have A1 : Hid (Below w.heap.size w wr) := W0.out.trans (hb.mono W0.out.size)
      have BV : Hid (Below v.heap.size v wr) := hb
      clear hj hb
      by_cases hlt : k < n
      · obtain ⟨p, off, ha, d0, d1, d2, d3, d4⟩ := (HE.out.below A1.out).rqAt hlt
        subst ha
        have hlt' : (k : Int) < (n : Int) := by omega
        have hk0 : (0 : Int) ≤ (k : Int) := by omega
        have hbA : Below wr.heap.size wr (wr.alloc (.cells #[.int .i64 (RQ k).s, .int .i64 (RQ k).q, .int .i64 (RQ k).v, .int .i64 (RQ k).c, .string (RQ k).r] 52)) := (Below.refl _ _).alloc (Nat.le_refl _) _
        have XQ : Hid (∀ z : Bool, z = okB (toRq (RQ k)).Ok → Calls Tryd.prog 50 #[.agg #[.int .i64 (RQ k).s, .int .i64 (RQ k).q, .int .i64 (RQ k).v, .int .i64 (RQ k).c, .string (RQ k).r]] (wr.alloc (.cells #[.int .i64 (RQ k).s, .int .i64 (RQ k).q, .int .i64 (RQ k).v, .int .i64 (RQ k).c, .string (RQ k).r] 52)) fun e w' => e = .returned (.bool z) ∧ Below (wr.alloc (.cells #[.int .i64 (RQ k).s, .int .i64 (RQ k).q, .int .i64 (RQ k).v, .int .i64 (RQ k).c, .string (RQ k).r] 52)).heap.size (wr.alloc (.cells #[.int .i64 (RQ k).s, .int .i64 (RQ k).q, .int .i64 (RQ k).v, .int .i64 (RQ k).c, .string (RQ k).r] 52)) w') := fun z hz => RO.out (RQ k) z _ hz
        replace X1 : Hid (Box2 (wr.alloc (.cells #[.int .i64 (RQ k).s, .int .i64 (RQ k).q, .int .i64 (RQ k).v, .int .i64 (RQ k).c, .string (RQ k).r] 52)) w.heap.size 46 (.slice none 0 0) (.slice none 0 0)) := X1.out.below hbA
        replace A1 : Hid (Below w.heap.size w (wr.alloc (.cells #[.int .i64 (RQ k).s, .int .i64 (RQ k).q, .int .i64 (RQ k).v, .int .i64 (RQ k).c, .string (RQ k).r] 52))) := A1.out.trans (hbA.mono A1.out.size)
        replace BV : Hid (Below v.heap.size v (wr.alloc (.cells #[.int .i64 (RQ k).s, .int .i64 (RQ k).q, .int .i64 (RQ k).v, .int .i64 (RQ k).c, .string (RQ k).r] 52))) := BV.out.trans (hbA.mono BV.out.size)
        clear hbA
        go_wp2_with fail
        generalize (wr.alloc (.cells #[.int .i64 (RQ k).s, .int .i64 (RQ k).q, .int .i64 (RQ k).v, .int .i64 (RQ k).c, .string (RQ k).r] 52)) = wq at *
        by_cases hq : (toRq (RQ k)).Ok
        · refine (XQ.out true (okB_yes hq).symm).mono ?_
          rintro e w1 ⟨rfl, hb1⟩
          replace BV : Hid (Below v.heap.size v w1) := BV.out.trans (hb1.mono BV.out.size)
          have HQ : Hid (toRq (RQ k)).Ok := hq
          clear hb1 hq d0 d1 d2 d3 d4
          go_wp2
          go_roundw
          case rel => exact ⟨k + 1, by omega, by go_num, fun i hi => by
            rcases (show i < k ∨ i = k by omega) with g | rfl
            · exact HJ.out i g
            · exact HQ.out, BV.out⟩
          case measure => simp [intOf]; omega
        · first
            | exact absurd (hok k hlt) hq
            | (refine (XQ.out false (okB_no hq).symm).mono ?_
               rintro e w1 ⟨rfl, hb1⟩
               replace X1 : Hid (Box2 w1 w.heap.size 46 (.slice none 0 0) (.slice none 0 0)) := X1.out.below hb1
               replace A1 : Hid (Below w.heap.size w w1) := A1.out.trans (hb1.mono A1.out.size)
               have x0 := X1.out.c0
               have x1 := X1.out.c1
               have f0 := X1.out.fr 0
               have f1 := X1.out.fr 1
               clear hb1 hq d0 d1 d2 d3 d4
               go_wp2
               exact ret_cellTT (b := w.heap.size) Tryd.results19 rfl rfl rfl (Box2.loadbk ((X1.out.set0 _).set1 _)) ⟨RunA.empty _ _ _ _, (A1.out.setCell (Nat.le_refl _) _).setCell (Nat.le_refl _) _⟩)
      · obtain rfl : k = n := by omega
        have hlt' : ¬ (k : Int) < (k : Int) := by omega
        first
          | (obtain ⟨i, hi, hno⟩ := hbad
             exact absurd (HJ.out i hi) hno)
          | (have HOK : Hid (∀ i, i < k → (toRq (RQ i)).Ok) := HJ.out
             have hmk := mkInE k (by omega) (wr.alloc (.cells #[.slice none 0 0, .slice none 0 0] 46))
             have hb0 : Below wr.heap.size wr ((wr.alloc (.cells #[.slice none 0 0, .slice none 0 0] 46)).alloc (.cells (madeCells #[.int .i64 0] k) 3)) := ((Below.refl _ _).alloc (Nat.le_refl _) _).alloc (by simp) _
             have X2 : Hid (Box2 ((wr.alloc (.cells #[.slice none 0 0, .slice none 0 0] 46)).alloc (.cells (madeCells #[.int .i64 0] k) 3)) w.heap.size 46 (.slice none 0 0) (.slice none 0 0)) := X1.out.below hb0
             have P2 : Hid (BkP ((wr.alloc (.cells #[.slice none 0 0, .slice none 0 0] 46)).alloc (.cells (madeCells #[.int .i64 0] k) 3)) wr.heap.size (w.heap.size + 1) (runK RQ 0) (.slice none 0 0) (.slice none 0 0)) := ⟨(Box2.made _ _ _ _).alloc _, ⟨EO.nil _ _ _ _ _, EO.nil _ _ _ _ _, (fun g e => by cases e)⟩, (fun e => by cases e), (fun e => by cases e)⟩
             have I2 : Hid (IE ((wr.alloc (.cells #[.slice none 0 0, .slice none 0 0] 46)).alloc (.cells (madeCells #[.int .i64 0] k) 3)) (w.heap.size + 1) (.slice (some ⟨wr.heap.size + 1, 0, none⟩) k k) k (fun _ => 0)) := by
               have := IE.made (wr.alloc (.cells #[.slice none 0 0, .slice none 0 0] 46)) (w.heap.size + 1) k (by have := X1.out.lt; simp; omega) (by omega)
               simp at this
               exact this
             have A2 : Hid (Below w.heap.size w ((wr.alloc (.cells #[.slice none 0 0, .slice none 0 0] 46)).alloc (.cells (madeCells #[.int .i64 0] k) 3))) := A1.out.trans (hb0.mono A1.out.size)
             have LP : Hid (w.heap.size < wr.heap.size) := X1.out.lt
             clear hb0 A1 X1 BV HJ RO X0 W0
             go_wp2_with fail
             generalize ((wr.alloc (.cells #[.slice none 0 0, .slice none 0 0] 46)).alloc (.cells (madeCells #[.int .i64 0] k) 3)) = v2 at *
             generalize wr.heap.size = p at *
             clear hmk
             go_loopw [35] (fun iv wx => ∃ (j : Nat) (v0 v1 : Value), j ≤ k ∧ iv = .int .i64 (j : Int) ∧ BkP wx p (w.heap.size + 1) (runK RQ j) v0 v1 ∧ IE wx (w.heap.size + 1) (.slice (some ⟨p + 1, 0, none⟩) k k) k (fun i => if i < j then told RQ i else 0) ∧ v0.ownBlock ≠ some (p + 1) ∧ v1.ownBlock ≠ some (p + 1) ∧ Box2 wx w.heap.size 46 (.slice none 0 0) (.slice none 0 0) ∧ Below w.heap.size w wx) (fun iv _ => k - (intOf iv).toNat)
             case atStart => exact ⟨0, _, _, by omega, rfl, P2.out, I2.out, (fun e => by cases e), (fun e => by cases e), X2.out, A2.out⟩
             case round =>
               clear P2 I2 X2 A2
               obtain ⟨j, v0, v1, hj, rfl, hp, hi, hn0, hn1, hx, hb⟩ := hrel
               have P2 : Hid (BkP wr p (w.heap.size + 1) (runK RQ j) v0 v1) := hp
               have I2 : Hid (IE wr (w.heap.size + 1) (.slice (some ⟨p + 1, 0, none⟩) k k) k (fun i => if i < j then told RQ i else 0)) := hi
               have N0 : Hid (v0.ownBlock ≠ some (p + 1)) := hn0
               have N1 : Hid (v1.ownBlock ≠ some (p + 1)) := hn1
               have X2 : Hid (Box2 wr w.heap.size 46 (.slice none 0 0) (.slice none 0 0)) := hx
               have A2 : Hid (Below w.heap.size w wr) := hb
               clear hp hi hn0 hn1 hx hb
               by_cases hlt : j < k
               · obtain ⟨pa, off, ha, d0, d1, d2, d3, d4⟩ := (HE.out.below A2.out).rqAt hlt
                 subst ha
                 have hl' : (j : Int) < (k : Int) := by omega
                 have hk0 : (0 : Int) ≤ (j : Int) := by omega
                 have hbA : Below wr.heap.size wr (wr.alloc (.cells #[.int .i64 (RQ j).s, .int .i64 (RQ j).q, .int .i64 (RQ j).v, .int .i64 (RQ j).c, .string (RQ j).r] 52)) := (Below.refl _ _).alloc (Nat.le_refl _) _
                 replace P2 : Hid (BkP (wr.alloc (.cells #[.int .i64 (RQ j).s, .int .i64 (RQ j).q, .int .i64 (RQ j).v, .int .i64 (RQ j).c, .string (RQ j).r] 52)) p (w.heap.size + 1) (runK RQ j) v0 v1) := P2.out.below hbA
                 replace I2 : Hid (IE (wr.alloc (.cells #[.int .i64 (RQ j).s, .int .i64 (RQ j).q, .int .i64 (RQ j).v, .int .i64 (RQ j).c, .string (RQ j).r] 52)) (w.heap.size + 1) (.slice (some ⟨p + 1, 0, none⟩) k k) k (fun i => if i < j then told RQ i else 0)) := EO.below I2.out hbA
                 replace X2 : Hid (Box2 (wr.alloc (.cells #[.int .i64 (RQ j).s, .int .i64 (RQ j).q, .int .i64 (RQ j).v, .int .i64 (RQ j).c, .string (RQ j).r] 52)) w.heap.size 46 (.slice none 0 0) (.slice none 0 0)) := X2.out.below hbA
                 replace A2 : Hid (Below w.heap.size w (wr.alloc (.cells #[.int .i64 (RQ j).s, .int .i64 (RQ j).q, .int .i64 (RQ j).v, .int .i64 (RQ j).c, .string (RQ j).r] 52))) := A2.out.trans (hbA.mono A2.out.size)
                 clear hbA
                 go_wp2_with fail
                 generalize (wr.alloc (.cells #[.int .i64 (RQ j).s, .int .i64 (RQ j).q, .int .i64 (RQ j).v, .int .i64 (RQ j).c, .string (RQ j).r] 52)) = wq at *
                 have hj1 : ∀ i, i < j → (toRq (RQ i)).Ok := fun i hi => HOK.out i (by omega)
                 refine (answer_any p (w.heap.size + 1) (runK RQ j) (runK RQ (j + 1)) (toRq (RQ j)) (told RQ j) (mark RQ j) (runK_ok RQ j hj1) (HOK.out j hlt) (runK_is RQ j hj1) v0 v1 wq (by have := X2.out.lt; omega) P2.out).mono ?_
                 rintro e w2 ⟨u0, u1, rfl, pk, kb⟩
                 have hq1 : (p + 1) < wq.heap.size := (EO.ge I2.out _ rfl).2
                 have I3 : Hid (IE w2 (w.heap.size + 1) (.slice (some ⟨p + 1, 0, none⟩) k k) k (fun i => if i < j then told RQ i else 0)) := EO.keep I2.out (fun g e => by
                   cases e
                   exact kb.blk _ hq1 (by show p + 1 ≠ p; omega) N0.out N1.out)
                 have X3 : Hid (Box2 w2 w.heap.size 46 (.slice none 0 0) (.slice none 0 0)) := X2.out.ofBlock (kb.blk _ X2.out.lt (by have := LP.out; omega) (fun e => by have := (P2.out.r.e0.ge _ e).1; omega) (fun e => by have := (P2.out.r.e1.ge _ e).1; omega))
                 have A3 : Hid (Below w.heap.size w w2) := A2.out.trans ((kb.toBelow (by have := LP.out; omega) P2.out (by have := X2.out.lt; omega)).mono (by omega))
                 have M0 : Hid (u0.ownBlock ≠ some (p + 1)) := fun e => (kb.o0 _ e).elim N0.out (fun q => by omega)
                 have M1 : Hid (u1.ownBlock ≠ some (p + 1)) := fun e => (kb.o1 _ e).elim N1.out (fun q => by omega)
                 have P3 : Hid (BkP w2 p (w.heap.size + 1) (runK RQ (j + 1)) u0 u1) := pk
                 obtain ⟨G, r1, -⟩ := EO.rowE I3.out
                 obtain hG := r1.a (by omega)
                 cases hG
                 have t0 := r1.c j hlt 0 (by omega)
                 have t1 := r1.z j (by omega)
                 simp only [Nat.mul_one, Nat.add_zero] at t0
                 have I4 : Hid (IE (w2.setCell ⟨p + 1, j, none⟩ (.int .i64 (told RQ j))) (w.heap.size + 1) (.slice (some ⟨p + 1, 0, none⟩) k k) k (fun i => if i < j + 1 then told RQ i else 0)) := IE.congr (I3.out.set hlt (told RQ j)) (fun i hi => by
                   unfold updE
                   dsimp only
                   by_cases e : i = j
                   · subst e; rw [if_pos rfl, if_pos (by omega)]
                   · rw [if_neg e]
                     by_cases e2 : i < j
                     · rw [if_pos e2, if_pos (by omega)]
                     · rw [if_neg e2, if_neg (by omega)])
                 have P4 : Hid (BkP (w2.setCell ⟨p + 1, j, none⟩ (.int .i64 (told RQ j))) p (w.heap.size + 1) (runK RQ (j + 1)) u0 u1) := ⟨P3.out.x.other (by show p ≠ p + 1; omega) _, ⟨P3.out.r.e0.keep (fun g e => heap_setCell_other _ _ _ _ (fun q => M0.out (by rw [e, q]))), P3.out.r.e1.keep (fun g e => heap_setCell_other _ _ _ _ (fun q => M1.out (by rw [e, q]))), P3.out.r.n01⟩, P3.out.n0, P3.out.n1⟩
                 have X4 : Hid (Box2 (w2.setCell ⟨p + 1, j, none⟩ (.int .i64 (told RQ j))) w.heap.size 46 (.slice none 0 0) (.slice none 0 0)) := X3.out.other (by have := LP.out; show w.heap.size ≠ p + 1; omega) _
                 have A4 : Hid (Below w.heap.size w (w2.setCell ⟨p + 1, j, none⟩ (.int .i64 (told RQ j)))) := A3.out.setCell (by have := LP.out; show w.heap.size ≤ p + 1; omega) _
                 clear r1 pk kb I2 I3 X2 X3 A2 A3 P2 P3 N0 N1 d0 d1 d2 d3 d4 hq1 hj1
                 go_wp2
                 go_roundw
                 case rel => exact ⟨j + 1, u0, u1, by omega, by go_num, P4.out, I4.out, M0.out, M1.out, X4.out, A4.out⟩
                 case measure => simp [intOf]; omega
               · obtain rfl : j = k := by omega
                 have hl' : ¬ (j : Int) < (j : Int) := by omega
                 obtain ⟨a0, c0, rfl⟩ := P2.out.r.e0.form
                 obtain ⟨a1, c1, rfl⟩ := P2.out.r.e1.form
                 have p0 := P2.out.x.c0
                 have p1 := P2.out.x.c1
                 have x0 := X2.out.c0
                 have x1 := X2.out.c1
                 have f0 := X2.out.fr 0
                 have f1 := X2.out.fr 1
                 have O5 : OnlyB w.heap.size wr ((wr.setCell ⟨w.heap.size, 0, none⟩ (.slice a0 (runK RQ j).nr c0)).setCell ⟨w.heap.size, 1, none⟩ (.slice a1 (runK RQ j).ns c1)) := ((OnlyB.refl _ wr).setCell 0 _).setCell 1 _
                 have R5 : Hid (RunA (runK RQ j) j (told RQ) 0 w.heap.size (.returned (.tuple #[.agg #[.slice a0 (runK RQ j).nr c0, .slice a1 (runK RQ j).ns c1], .slice (some ⟨p + 1, 0, none⟩) j j, .int .i64 0])) ((wr.setCell ⟨w.heap.size, 0, none⟩ (.slice a0 (runK RQ j).nr c0)).setCell ⟨w.heap.size, 1, none⟩ (.slice a1 (runK RQ j).ns c1))) := ⟨a0, c0, a1, c1, _, _, rfl, ⟨(P2.out.r.e0.onlyB O5 (by omega)).mono (by omega), (P2.out.r.e1.onlyB O5 (by omega)).mono (by omega), P2.out.r.n01⟩, IE.congr (EO.mono (EO.onlyB I2.out O5 (by omega)) (by omega)) (fun i hi => by rw [if_pos hi])⟩
                 have A5 : Hid (Below w.heap.size w ((wr.setCell ⟨w.heap.size, 0, none⟩ (.slice a0 (runK RQ j).nr c0)).setCell ⟨w.heap.size, 1, none⟩ (.slice a1 (runK RQ j).ns c1))) := (A2.out.setCell (Nat.le_refl _) _).setCell (Nat.le_refl _) _
                 have NP : Hid (w.heap.size ≠ p) := by have := LP.out; show w.heap.size ≠ p; omega
                 clear O5 I2 A2
                 go_wp2
                 exact ret_cellTT (b := w.heap.size) Tryd.results19 rfl rfl rfl (Box2.loadbk ((X2.out.set0 _).set1 _)) ⟨R5.out, A5.out⟩)
end Go.Proofs.YtpngjkhncfbnpaaDoor
