/-
  Texts of the proof, joined: QuD.
-/
import Derived.Test.YtedncfcmhaaobaaV19
import Derived.Test.YtedncfcmhaaobaaV17
namespace Go.Proofs.Ytedncfcmhaaobaa
open Go.ChangeShapes Go.WideShapes Go.ChangeAt Go.RowKit
set_option linter.unusedVariables false
theorem EO.cutD {w : World} {B : Nat} {t : TypeId} {s g n c : Nat} {F : Nat → Nat → Value} (h : EO w B t s (.slice (some ⟨g, 0, none⟩) n c) n F) {m : Nat} (hm : m ≤ n) : EO w B t s (.slice (some ⟨g, 0, none⟩) m c) m F := by
 have hx : elv s m F = (elv s n F).take (m * s) := by
  obtain ⟨k, rfl⟩ : ∃ k, n = m + k := ⟨n - m, by omega⟩
  rw [elv_cat s m F (fun i => F (m + i)) F (fun _ _ => rfl) (fun _ => rfl) k, List.take_left' (elv_length _ _ _)]
 unfold EO at h ⊢
 obtain ⟨hl, ⟨h1, _⟩ | ⟨g', cap, cur, hv, hB, hh, hn, hmx, hcs, htk⟩⟩ := h
 ·cases h1
 ·cases hv
  refine ⟨by rw [elv_length], .inr ⟨g, c, cur, rfl, hB, hh, by omega, hmx, hcs, ?_⟩⟩
  rw [hx, ← htk, List.take_take, Nat.min_eq_left (Nat.mul_le_mul_right s hm)]
def delV (F : Nat → Int) (j r t : Nat) : Int := if t < j then F t else if t + 1 < r then F (t + 1) else F t
theorem delV_start (F : Nat → Int) (j t : Nat) : delV F j (j + 1) t = F t := by
 unfold delV
 split
 ·rfl
 ·rw [if_neg (by omega)]
theorem delV_step (F : Nat → Int) (j r : Nat) (h : j < r) (t : Nat) : updE (delV F j r) (r - 1) (F r) t = delV F j (r + 1) t := by
 unfold updE delV
 by_cases e : t = r - 1
 ·subst e
  rw [if_pos rfl, if_neg (by omega), if_pos (by omega), show r - 1 + 1 = r by omega]
 ·rw [if_neg e]
  by_cases g : t < j
  ·rw [if_pos g, if_pos g]
  ·rw [if_neg g, if_neg g]
   by_cases g2 : t + 1 < r
   ·rw [if_pos g2, if_pos (by omega)]
   ·rw [if_neg g2, if_neg (by omega)]
theorem delV_at (F : Nat → Int) (j r : Nat) (h : j < r) : delV F j r r = F r := by
 unfold delV
 rw [if_neg (by omega), if_neg (by omega)]
theorem delV_end (F : Nat → Int) (j n i : Nat) (hi : i < n - 1) : delV F j n i = delN j F i := by
 unfold delV delN
 by_cases g : i < j
 ·rw [if_pos g, if_pos g]
 ·rw [if_neg g, if_neg g, if_pos (by omega)]
theorem IE.setI {w : World} {B g n c : Nat} {G : Nat → Int} (h : IE w B (.slice (some ⟨g, 0, none⟩) n c) n G) {k : Nat} (hk : k < n) (x : Int) :
  IE (w.setCell ⟨g, k, none⟩ (.int .i64 x)) B (.slice (some ⟨g, 0, none⟩) n c) n (updE G k x) := by
 have h1 := EO.set h (k := k) (l := 0) hk (by omega) (.int .i64 x)
 rw [Nat.add_zero, Nat.mul_one] at h1
 refine EO.congr h1 (fun i hi j hj => ?_)
 obtain rfl : j = 0 := by omega
 unfold setF inF updE
 by_cases e : i = k
 ·subst e; simp
 ·simp [e]
theorem IE.cell {w : World} {B g n c : Nat} {G : Nat → Int} (h : IE w B (.slice (some ⟨g, 0, none⟩) n c) n G) (i : Nat) (hi : i < n) : w.cell? ⟨g, i, none⟩ = some (.int .i64 (G i)) ∧ w.frozen? ⟨g, i, none⟩ = false := by
 obtain ⟨gg, hr, _⟩ := EO.rowE h
 have ha := hr.a (by omega)
 cases ha
 have h1 := hr.c i hi 0 (by omega)
 have h2 := hr.z i (by omega)
 rw [Nat.mul_one, Nat.add_zero] at h1
 exact ⟨h1, h2⟩
theorem clearI1 (w : World) (g k c n : Nat) (G : Nat → Int) (B cc : Nat) (h : IE w B (.slice (some ⟨g, 0, none⟩) n cc) n G) (hk : k < n) (ty : TypeId) :
  (Builtin.clear_ #[29] ty #[.slice (some ⟨g, k, none⟩) 1 c]).run Try.prog w = .ok (.tuple #[]) (w.setCell ⟨g, k, none⟩ (.int .i64 0)) := by
 obtain ⟨i, hi, hz, hsz, hby⟩ := info_parts Try.infoInE
 obtain ⟨c0, f0⟩ := IE.cell h k hk
 have hst := run_storeCells_cells (P := Try.prog) g k [.int .i64 0] 0 w (fun j hj => by
  obtain rfl : j = 0 := by simpa using hj
  rw [Nat.add_zero, c0]; rfl) (fun j hj => by
  obtain rfl : j = 0 := by simpa using hj
  rw [Nat.add_zero]; exact f0) (by
   intro v hv
   rw [List.mem_singleton.1 hv]; rfl)
 have hzc : (Builtin.zeroCells (Value.int .i64 0).cells 1).toList = [.int .i64 0] := by kernel_rfl
 have hv : ∀ w, (zeroValue 3).run Try.prog w = .ok (.int .i64 0) w := fun w => by
  simp [zeroValue, typeInfo, hi, hz]
 simp only [Nat.add_zero] at hst
 simp [Builtin.clear_, run_underlying Try.underlying29, hv, hzc, hst]
 rfl
set_option maxRecDepth 100000 in
theorem delI (y x : Int) (Bp : Nat) (w : World) (hp : w.cell? ⟨Bp, 0, none⟩ = some (.int .i64 x)) (z : Bool) (hz : z = sB (y = x)) :
  Calls Try.prog 109 #[.int .i64 y, .pointer (some ⟨Bp, 0, none⟩)] w fun e w' => e = .returned (.bool z) ∧ w = w' := by
 by_cases h : y = x
 ·obtain rfl : z = true := hz.trans (sB_yes h)
  subst h
  clear hz
  go_enter Try.func109, Try.ntmps109
  go_wp2
  go_ret
  exact ⟨by simp, rfl⟩
 ·obtain rfl : z = false := hz.trans (sB_no h)
  have d : (y == x) = false := by simp; exact h
  clear hz
  go_enter Try.func109, Try.ntmps109
  go_wp2
  go_ret
  exact ⟨rfl, rfl⟩
set_option maxRecDepth 100000 in
set_option maxHeartbeats 1000000 in
theorem idxI (a : Option Addr) (n c : Nat) (E : Nat → Int) (x : Int) (Bp : Nat) (hn : n ≤ 1048576) (w : World) (hp : w.cell? ⟨Bp, 0, none⟩ = some (.int .i64 x)) (h : Num w a n E) :
  Calls Try.prog 113 #[.slice a n c, .func (.func 109) #[] #[.pointer (some ⟨Bp, 0, none⟩)]] w fun e w' => (∃ y : Int, e = .returned (.int .i64 y) ∧ ((∃ j : Nat, y = (j : Int) ∧ j < n ∧ E j = x ∧ ∀ i, i < j → E i ≠ x) ∨ (y = -1 ∧ ¬ hasE n E x))) ∧ w = w' := by
 have H : Hid (Num w a n E) := h
 have HP : Hid (w.cell? ⟨Bp, 0, none⟩ = some (.int .i64 x)) := hp
 clear h hp
 go_enter Try.func113, Try.ntmps113
 go_wp2
 go_loopw [8] (fun i wr => ∃ k : Nat, k ≤ n ∧ i = .int .i64 k ∧ (∀ j, j < k → E j ≠ x) ∧ wr = w) (fun i _ => n - (intOf i).toNat)
 case atStart => exact ⟨0, by omega, rfl, fun j hj => by omega, rfl⟩
 case round =>
  obtain ⟨k, hk, rfl, hno, rfl⟩ := hrel
  have HN : Hid (∀ j, j < k → E j ≠ x) := hno
  clear hno
  by_cases hlt : k < n
  ·have hlt' : (k : Int) < (n : Int) := by omega
   obtain ⟨b, off, rfl, hc⟩ := H.out.at (by omega)
   have c0 := hc k hlt
   have DL : Hid (∀ z : Bool, z = sB (E k = x) → Calls Try.prog 109 #[.int .i64 (E k), .pointer (some ⟨Bp, 0, none⟩)] wr fun e w' => e = .returned (.bool z) ∧ wr = w') := fun z hz => delI (E k) x Bp wr HP.out z hz
   clear hc
   by_cases q : E k = x
   ·have D1 : Hid (Calls Try.prog 109 #[.int .i64 (E k), .pointer (some ⟨Bp, 0, none⟩)] wr fun e w' => e = .returned (.bool true) ∧ wr = w') := DL.out true (sB_yes q).symm
    have Q : Hid (E k = x) := q
    clear DL q
    go_wp2_with fail
    refine D1.out.mono ?_
    rintro e _ ⟨rfl, rfl⟩
    clear D1
    go_wp2
    go_ret
    exact ⟨⟨k, rfl, .inl ⟨k, rfl, hlt, Q.out, HN.out⟩⟩, rfl⟩
   ·have D1 : Hid (Calls Try.prog 109 #[.int .i64 (E k), .pointer (some ⟨Bp, 0, none⟩)] wr fun e w' => e = .returned (.bool false) ∧ wr = w') := DL.out false (sB_no q).symm
    have HN2 : Hid (∀ j, j < k + 1 → E j ≠ x) := fun j hj => by
     rcases Nat.lt_or_ge j k with z | z
     ·exact HN.out j z
     ·obtain rfl : j = k := by omega
      exact q
    clear DL q HN
    go_wp2_with fail
    refine D1.out.mono ?_
    rintro e _ ⟨rfl, rfl⟩
    clear D1
    go_wp2
    go_roundw
    case rel => exact ⟨k + 1, by omega, by go_num, HN2.out, trivial⟩
    case measure => simp [intOf]; omega
  ·have hlt' : ¬ (k : Int) < (n : Int) := by omega
   have Q : Hid (¬ hasE n E x) := fun ⟨i, hi, e⟩ => HN.out i (by omega) e
   clear HN
   go_wp2
   go_ret
   exact ⟨⟨-1, rfl, .inr ⟨rfl, Q.out⟩⟩, rfl⟩
def RetDl (w : World) (B : Nat) (a : Option Addr) (n c : Nat) (E : Nat → Int) (x : Int) (e : Ending) (w' : World) : Prop := (e = .returned (.slice a (subE n E x).1 c) ∧ IE w' B (.slice a (subE n E x).1 c) (subE n E x).1 (subE n E x).2) ∧ w.grownBy w' (Value.slice a n c).ownBlock
set_option maxRecDepth 100000 in
set_option maxHeartbeats 4000000 in
theorem dropI_any (N B : Nat) (a : Option Addr) (n c : Nat) (E : Nat → Int) (x : Int) (Bp : Nat) (hE : idsOk N n E) (hn : n ≤ 100000) (w : World) (hp : w.cell? ⟨Bp, 0, none⟩ = some (.int .i64 x)) (hne : ∀ g, (Value.slice a n c).ownBlock = some g → Bp ≠ g) (h : IE w B (.slice a n c) n E) :
  Calls Try.prog 108 #[.slice a n c, .func (.func 109) #[] #[.pointer (some ⟨Bp, 0, none⟩)]] w fun e w' => RetDl w B a n c E x e w' := by
 have IX : Hid (Calls Try.prog 113 #[.slice a n c, .func (.func 109) #[] #[.pointer (some ⟨Bp, 0, none⟩)]] w fun e w' => (∃ y : Int, e = .returned (.int .i64 y) ∧ ((∃ j : Nat, y = (j : Int) ∧ j < n ∧ E j = x ∧ ∀ i, i < j → E i ≠ x) ∨ (y = -1 ∧ ¬ hasE n E x))) ∧ w = w') := idxI a n c E x Bp (by omega) w hp (IE.num h)
 have HE : Hid (idsOk N n E) := hE
 have HP : Hid (w.cell? ⟨Bp, 0, none⟩ = some (.int .i64 x)) := hp
 have E0 : Hid (IE w B (.slice a n c) n E) := h
 have HNE : Hid (∀ g, (Value.slice a n c).ownBlock = some g → Bp ≠ g) := hne
 have hnc := (EO.slp h).le
 clear h hp hE hne
 go_enter Try.func108, Try.ntmps108
 go_wp2_with fail
 refine IX.out.mono ?_
 rintro e _ ⟨⟨y, rfl, hy⟩, rfl⟩
 clear IX
 rcases hy with ⟨j, rfl, hj, ej, hf⟩ | ⟨rfl, hno⟩
 ·have hg1 : ((j : Int) == -1) = false := by simp
  obtain ⟨g, rfl⟩ : ∃ g, a = some ⟨g, 0, none⟩ := by
   obtain ⟨hl, ⟨h1, h2⟩ | ⟨g, cap, cur, hv, _⟩⟩ := E0.out
   ·omega
   ·cases hv; exact ⟨g, rfl⟩
  have EJ : Hid (E j = x) := ej
  have NX : Hid (∀ i, j < i → i < n → E i ≠ x) := fun i hi hin e => by have := ids_lt HE.out i j hi hin; rw [EJ.out, e] at this; omega
  have SL : Hid (SlP (some ⟨g, 0, none⟩) n c) := EO.slp E0.out
  have GP : Hid (Bp ≠ g) := HNE.out g rfl
  have SUB : Hid (subE n E x = (n - 1, delN j E)) := by
   show _ = _
   have q : hasE n E x := ⟨j, hj, EJ.out⟩
   have ep : plcE x E n = j := plcE_is (by omega) (fun i hi => by have := ids_lt HE.out j i hi hj; rw [EJ.out] at this; exact this) (.inr (by rw [EJ.out]; omega))
   unfold subE
   rw [if_pos q, ep]
  clear ej hf HNE HE
  go_wp2
  go_loopw [5, 6] (fun i r wr => ∃ k : Nat, j < k ∧ k ≤ n ∧ i = .int .i64 ((k : Int) - 1) ∧ r = .int .i64 k ∧ IE wr B (.slice (some ⟨g, 0, none⟩) n c) n (delV E j k) ∧ OnlyB g w wr) (fun _ r _ => n - (intOf r).toNat)
  case atStart => exact ⟨j + 1, by omega, by omega, by go_num, by go_num, IE.congr E0.out (fun i _ => (delV_start E j i).symm), OnlyB.refl g w⟩
  case round =>
   obtain ⟨k, hjk, hk, rfl, rfl, hI, hb⟩ := hrel
   have HI : Hid (IE wr B (.slice (some ⟨g, 0, none⟩) n c) n (delV E j k)) := hI
   have HB : Hid (OnlyB g w wr) := hb
   clear hI hb
   by_cases hlt : k < n
   ·have hlt' : (k : Int) < (n : Int) := by omega
    have c0 := (IE.cell HI.out k hlt).1
    rw [delV_at E j k hjk] at c0
    have DL : Hid (Calls Try.prog 109 #[.int .i64 (E k), .pointer (some ⟨Bp, 0, none⟩)] wr fun e w' => e = .returned (.bool false) ∧ wr = w') := delI (E k) x Bp wr (by
     have := HB.out.block Bp (strBlock HP.out) GP.out
     rw [World.cell?_of_block (w := w) this]
     exact HP.out) false (sB_no (NX.out k hjk hlt)).symm
    go_wp2_with fail
    refine DL.out.mono ?_
    rintro e _ ⟨rfl, rfl⟩
    clear DL c0
    have e1 : (k : Int) - 1 = ((k - 1 : Nat) : Int) := by omega
    rw [e1]
    have hk1 : ((k - 1 : Nat) : Int) < (n : Int) := by omega
    obtain ⟨t0, u0⟩ := IE.cell HI.out (k - 1) (by omega)
    have E3 : Hid (IE (wr.setCell ⟨g, k - 1, none⟩ (.int .i64 (E k))) B (.slice (some ⟨g, 0, none⟩) n c) n (delV E j (k + 1))) := IE.congr (IE.setI HI.out (show k - 1 < n by omega) (E k)) (fun i _ => delV_step E j k hjk i)
    have B3 : Hid (OnlyB g w (wr.setCell ⟨g, k - 1, none⟩ (.int .i64 (E k)))) := HB.out.setCell (k - 1) _
    clear HI HB
    go_wp2
    go_roundw
    case rel => exact ⟨k + 1, by omega, by omega, by go_num, by go_num, E3.out, B3.out⟩
    case measure => simp [intOf]; omega
   ·obtain rfl : n = k := by omega
    have hlt' : ¬ (n : Int) < (n : Int) := by omega
    have e1 : (n : Int) - 1 = ((n - 1 : Nat) : Int) := by omega
    rw [e1]
    have CL := fun cc ty => clearI1 wr g (n - 1) cc n _ B c HI.out (by omega) ty
    have RF : ∀ w : World, (Instr.slice 29 (.slice (some ⟨g, 0, none⟩) n c) (some (.int .i64 ((n - 1 : Nat) : Int))) none none).run Try.prog w = .ok (.slice (some ⟨g, n - 1, none⟩) 1 (c - (n - 1))) w := fun w => by
     have := run_cut_from 29 (P := Try.prog) rfl 1 (fun w => by kernel_rfl) SL.out (n - 1) (by omega) w
     rw [this]
     unfold cutA
     rw [if_neg (by omega), show n - (n - 1) = 1 by omega]
     simp [Addr.add]
     omega
    have RT : ∀ w : World, (Instr.slice 29 (.slice (some ⟨g, 0, none⟩) n c) none (some (.int .i64 ((n - 1 : Nat) : Int))) none).run Try.prog w = .ok (.slice (some ⟨g, 0, none⟩) (n - 1) c) w := fun w => run_cut_to 29 rfl 1 (fun w => by kernel_rfl) SL.out (n - 1) (by omega) w
    have Q : Hid (RetDl w B (some ⟨g, 0, none⟩) n c E x (.returned (.slice (some ⟨g, 0, none⟩) (n - 1) c)) (wr.setCell ⟨g, n - 1, none⟩ (.int .i64 0))) := by
     show RetDl _ _ _ _ _ _ _ _ _
     unfold RetDl
     rw [SUB.out]
     have h1 : IE (wr.setCell ⟨g, n - 1, none⟩ (.int .i64 0)) B (.slice (some ⟨g, 0, none⟩) (n - 1) c) (n - 1) (delN j E) := IE.congr (EO.cutD (IE.setI HI.out (show n - 1 < n by omega) 0) (show n - 1 ≤ n by omega)) (fun i hi => by rw [updE_ne _ _ (by omega)]; exact delV_end E j n i hi)
     have h2 : OnlyB g w (wr.setCell ⟨g, n - 1, none⟩ (.int .i64 0)) := HB.out.setCell (n - 1) _
     exact ⟨⟨rfl, h1⟩, ⟨h2.os, h2.tape, h2.output, h2.size, fun b hb hn => h2.block b hb (fun e => hn (by rw [e]; rfl))⟩⟩
    clear HI HB SUB EJ NX SL
    go_wp2
    go_ret
    exact Q.out
 ·have Q : Hid (RetDl w B a n c E x (.returned (.slice a n c)) w) := by
   show RetDl _ _ _ _ _ _ _ _ _
   unfold RetDl
   rw [subE_miss hno]
   exact ⟨⟨rfl, E0.out⟩, ⟨rfl, rfl, rfl, Nat.le_refl _, fun _ _ _ => rfl⟩⟩
  clear hno E0 HNE HE HP
  go_wp2
  go_ret
  exact Q.out
end Go.Proofs.Ytedncfcmhaaobaa
