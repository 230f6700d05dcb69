/-
  Texts of the proof, joined: SvcO.
-/
import Derived.Test.YtedncfcmhaaobaaZ18
import Derived.Test.YtedncfcmhaaobaaZ05
namespace Go.Proofs.Ytedncfcmhaaobaa
open Go.ChangeShapes Go.WideShapes Go.ChangeAt Go.RowKit
set_option linter.unusedVariables false
open Classical in
noncomputable def sB (P : Prop) : Bool := decide P
theorem sB_yes {P : Prop} (h : P) : sB P = true := by unfold sB; simp [h]
theorem sB_no {P : Prop} (h : ¬ P) : sB P = false := by unfold sB; simp [h]
def inS (x : Int) : Prop := 0 ≤ x ∧ x ≤ 200
def mkOk (c t : Int) : Prop := inS c ∧ 0 ≤ t ∧ t ≤ 1000000
def idsOk (n m : Nat) (E : Nat → Int) : Prop := ∀ i, i < m → (0 ≤ E i ∧ E i < (n : Int)) ∧ (0 < i → E (i - 1) < E i)
def tmOk (t b e : Int) : Prop := (1 ≤ b ∧ b ≤ t) ∧ (e = -1 ∨ b ≤ e ∧ e ≤ t)
def Rp.Ok (n : Nat) (r : Rp) : Prop := ¬ (0 < r.ne ∧ r.mute = false) ∧ idsOk n r.ne r.E ∧ mkOk r.nc r.nt ∧ mkOk r.sc r.st ∧ mkOk r.bc r.bt
def Wo.Ok (n : Nat) (t : Int) (m i : Nat) (r : Wo) : Prop := ¬ (r.en = -1 ∧ i + 1 < m) ∧ r.mc = (i : Int) + 1 ∧ mkOk r.mc r.mt ∧ idsOk n r.ne r.E ∧ tmOk t r.bg r.en
def Ro.Ok (n : Nat) (t : Int) (r : Ro) : Prop := mkOk r.bc r.bt ∧ idsOk n r.ne r.E ∧ tmOk t r.bg r.en
def Sv.Ok (s : Sv) : Prop := ((1 ≤ s.n ∧ s.n ≤ 7) ∧ inS s.t ∧ s.m ≤ 200 ∧ s.l ≤ 200) ∧ (∀ i, i < s.m → (s.W i).Ok s.n s.t s.m i) ∧ (∀ i, i < s.n → (s.R i).Ok s.n) ∧ (∀ i, i < s.l → (s.Q i).Ok s.n s.t)
def BxF (w : World) (b : Nat) (t : TypeId) (m : Nat) (f : Nat → Value) : Prop := w.rowIs b t m f
theorem BxF.below {w w' : World} {b : Nat} {t : TypeId} {m : Nat} {f : Nat → Value} (h : BxF w b t m f) (hb : Below w.heap.size w w') : BxF w' b t m f := World.rowIs.of_block h (hb.block b (World.rowIs.lt h))
theorem BxF.cell {w : World} {b : Nat} {t : TypeId} {m : Nat} {f : Nat → Value} (h : BxF w b t m f) (i : Nat) (hi : i < m) : w.cell? ⟨b, i, none⟩ = some (f i) := World.rowIs.cell h hi
theorem BxF.rp (w : World) (r : Rp) (v : Value) : BxF (w.alloc (.cells #[.bool r.mute, .int .i64 r.nc, .int .i64 r.nt, .int .i64 r.sc, .int .i64 r.st, v, .int .i64 r.bc, .int .i64 r.bt] 43)) w.heap.size 43 8 (rpV r v) := World.rowIs_alloc w #[.bool r.mute, .int .i64 r.nc, .int .i64 r.nt, .int .i64 r.sc, .int .i64 r.st, v, .int .i64 r.bc, .int .i64 r.bt] _ _ (fun i hi => by
 have : i < 8 := by simpa using hi
 rcases (show i = 0 ∨ i = 1 ∨ i = 2 ∨ i = 3 ∨ i = 4 ∨ i = 5 ∨ i = 6 ∨ i = 7 by omega) with rfl | rfl | rfl | rfl | rfl | rfl | rfl | rfl <;> rfl)
theorem BxF.wo (w : World) (r : Wo) (v : Value) : BxF (w.alloc (.cells #[.int .i64 r.mc, .int .i64 r.mt, v, .int .i64 r.bg, .int .i64 r.en] 37)) w.heap.size 37 5 (woV r v) := World.rowIs_alloc w #[.int .i64 r.mc, .int .i64 r.mt, v, .int .i64 r.bg, .int .i64 r.en] _ _ (fun i hi => by
 have : i < 5 := by simpa using hi
 rcases (show i = 0 ∨ i = 1 ∨ i = 2 ∨ i = 3 ∨ i = 4 by omega) with rfl | rfl | rfl | rfl | rfl <;> rfl)
theorem BxF.ro (w : World) (r : Ro) (v : Value) : BxF (w.alloc (.cells #[v, .int .i64 r.bc, .int .i64 r.bt, .int .i64 r.bg, .int .i64 r.en] 90)) w.heap.size 90 5 (roV r v) := World.rowIs_alloc w #[v, .int .i64 r.bc, .int .i64 r.bt, .int .i64 r.bg, .int .i64 r.en] _ _ (fun i hi => by
 have : i < 5 := by simpa using hi
 rcases (show i = 0 ∨ i = 1 ∨ i = 2 ∨ i = 3 ∨ i = 4 by omega) with rfl | rfl | rfl | rfl | rfl <;> rfl)
theorem BxF.sv (w : World) (x y z u : Value) : BxF (w.alloc (.cells #[x, y, z, u] 28)) w.heap.size 28 4 (fun i => if i = 0 then x else if i = 1 then y else if i = 2 then z else u) := World.rowIs_alloc w #[x, y, z, u] _ _ (fun i hi => by
 have : i < 4 := by simpa using hi
 rcases (show i = 0 ∨ i = 1 ∨ i = 2 ∨ i = 3 by omega) with rfl | rfl | rfl | rfl <;> rfl)
theorem BxF.alloc {w : World} {b : Nat} {t : TypeId} {m : Nat} {f : Nat → Value} (h : BxF w b t m f) (q : Obj) : BxF (w.alloc q) b t m f := World.rowIs.alloc h q
set_option maxRecDepth 100000 in
set_option maxHeartbeats 1000000 in
theorem inScript_v (x : Int) (z : Bool) (hz : z = sB (inS x)) (w : World) :
  Calls Try.prog 59 #[.int .i64 x] w fun e w' => e = .returned (.bool z) ∧ Below w.heap.size w w' := by
 by_cases h1 : 0 ≤ x
 ·by_cases h2 : x ≤ 200
  ·obtain rfl : z = true := hz.trans (sB_yes ⟨h1, h2⟩)
   clear hz
   go_enter Try.func59, Try.ntmps59
   go_wp2
   go_ret
   exact ⟨rfl, Below.refl _ _⟩
  ·obtain rfl : z = false := hz.trans (sB_no (fun q => h2 q.2))
   clear hz
   go_enter Try.func59, Try.ntmps59
   go_wp2
   go_ret
   exact ⟨rfl, Below.refl _ _⟩
 ·obtain rfl : z = false := hz.trans (sB_no (fun q => h1 q.1))
  clear hz
  go_enter Try.func59, Try.ntmps59
  go_wp2
  go_ret
  exact ⟨rfl, Below.refl _ _⟩
set_option maxRecDepth 100000 in
set_option maxHeartbeats 1000000 in
theorem has_v (s : Sv) (p : Sa) (x : Int) (z : Bool) (hz : z = sB (0 ≤ x ∧ x < (s.n : Int))) (w : World) :
  Calls Try.prog 53 #[.agg #[.slice p.a s.n p.ca, .int .i64 s.t, .slice p.b s.m p.cb, .slice p.d s.l p.cd], .int .i64 x] w fun e w' => e = .returned (.bool z) ∧ Below w.heap.size w w' := by
 by_cases h1 : 0 ≤ x
 ·by_cases h2 : x < (s.n : Int)
  ·obtain rfl : z = true := hz.trans (sB_yes ⟨h1, h2⟩)
   clear hz
   go_enter Try.func53, Try.ntmps53
   go_wp2
   go_ret
   exact ⟨rfl, (Below.refl w.heap.size w).alloc (Nat.le_refl _) _⟩
  ·obtain rfl : z = false := hz.trans (sB_no (fun q => h2 q.2))
   clear hz
   go_enter Try.func53, Try.ntmps53
   go_wp2
   go_ret
   exact ⟨rfl, (Below.refl w.heap.size w).alloc (Nat.le_refl _) _⟩
 ·obtain rfl : z = false := hz.trans (sB_no (fun q => h1 q.1))
  clear hz
  go_enter Try.func53, Try.ntmps53
  go_wp2
  go_ret
  exact ⟨rfl, (Below.refl w.heap.size w).alloc (Nat.le_refl _) _⟩
set_option maxRecDepth 100000 in
set_option maxHeartbeats 1000000 in
theorem markOK_v (c t : Int) (z : Bool) (hz : z = sB (mkOk c t)) (w : World) :
  Calls Try.prog 90 #[.agg #[.int .i64 c, .int .i64 t]] w fun e w' => e = .returned (.bool z) ∧ Below w.heap.size w w' := by
 have BB : Hid (Below w.heap.size w (w.alloc (.cells #[.int .i64 c, .int .i64 t] 35))) := (Below.refl w.heap.size w).alloc (Nat.le_refl _) _
 have X : Hid (Box2 (w.alloc (.cells #[.int .i64 c, .int .i64 t] 35)) w.heap.size 35 (.int .i64 c) (.int .i64 t)) := Box2.made _ _ _ _
 have IS : Hid (∀ w : World, Calls Try.prog 59 #[.int .i64 c] w fun e w' => e = .returned (.bool (sB (inS c))) ∧ Below w.heap.size w w') := fun w => inScript_v c _ rfl w
 by_cases h1 : inS c
 ·rw [sB_yes h1] at IS
  by_cases h2 : 0 ≤ t
  ·by_cases h3 : t ≤ 1000000
   ·obtain rfl : z = true := hz.trans (sB_yes ⟨h1, h2, h3⟩)
    clear hz h1
    go_enter Try.func90, Try.ntmps90
    go_wp2_with fail
    generalize (w.alloc (.cells #[.int .i64 c, .int .i64 t] 35)) = v0 at *
    refine (IS.out _).mono ?_
    rintro e v1 ⟨rfl, hb⟩
    have B1 : Hid (Below w.heap.size w v1) := BB.out.trans (hb.mono BB.out.size)
    have k0 := (X.out.below hb).c0
    have k1 := (X.out.below hb).c1
    clear hb X BB IS
    go_wp2
    go_ret
    exact ⟨by first | rfl | simp [h3], B1.out⟩
   ·obtain rfl : z = false := hz.trans (sB_no (fun q => h3 q.2.2))
    clear hz h1
    go_enter Try.func90, Try.ntmps90
    go_wp2_with fail
    generalize (w.alloc (.cells #[.int .i64 c, .int .i64 t] 35)) = v0 at *
    refine (IS.out _).mono ?_
    rintro e v1 ⟨rfl, hb⟩
    have B1 : Hid (Below w.heap.size w v1) := BB.out.trans (hb.mono BB.out.size)
    have k0 := (X.out.below hb).c0
    have k1 := (X.out.below hb).c1
    clear hb X BB IS
    go_wp2
    go_ret
    exact ⟨by first | rfl | simp [h3], B1.out⟩
  ·obtain rfl : z = false := hz.trans (sB_no (fun q => h2 q.2.1))
   clear hz h1
   go_enter Try.func90, Try.ntmps90
   go_wp2_with fail
   generalize (w.alloc (.cells #[.int .i64 c, .int .i64 t] 35)) = v0 at *
   refine (IS.out _).mono ?_
   rintro e v1 ⟨rfl, hb⟩
   have B1 : Hid (Below w.heap.size w v1) := BB.out.trans (hb.mono BB.out.size)
   have k0 := (X.out.below hb).c0
   have k1 := (X.out.below hb).c1
   clear hb X BB IS
   go_wp2
   go_ret
   exact ⟨rfl, B1.out⟩
 ·rw [sB_no h1] at IS
  obtain rfl : z = false := hz.trans (sB_no (fun q => h1 q.1))
  clear hz h1
  go_enter Try.func90, Try.ntmps90
  go_wp2_with fail
  generalize (w.alloc (.cells #[.int .i64 c, .int .i64 t] 35)) = v0 at *
  refine (IS.out _).mono ?_
  rintro e v1 ⟨rfl, hb⟩
  have B1 : Hid (Below w.heap.size w v1) := BB.out.trans (hb.mono BB.out.size)
  have k0 := (X.out.below hb).c0
  have k1 := (X.out.below hb).c1
  clear hb X BB IS
  go_wp2
  go_ret
  exact ⟨rfl, B1.out⟩
set_option maxRecDepth 100000 in
set_option maxHeartbeats 1000000 in
theorem ids_v (s : Sv) (p : Sa) (A : Option Addr) (m X : Nat) (E : Nat → Int) (hm : m ≤ 1048576) (z : Bool) (hz : z = sB (idsOk s.n m E)) (w : World) (h : Num w A m E) :
  Calls Try.prog 91 #[.agg #[.slice p.a s.n p.ca, .int .i64 s.t, .slice p.b s.m p.cb, .slice p.d s.l p.cd], .slice A m X] w fun e w' => e = .returned (.bool z) ∧ Below w.heap.size w w' := by
 have BB : Hid (Below w.heap.size w (w.alloc (.cells #[.slice p.a s.n p.ca, .int .i64 s.t, .slice p.b s.m p.cb, .slice p.d s.l p.cd] 28))) := (Below.refl w.heap.size w).alloc (Nat.le_refl _) _
 have S1 : Hid (BxF (w.alloc (.cells #[.slice p.a s.n p.ca, .int .i64 s.t, .slice p.b s.m p.cb, .slice p.d s.l p.cd] 28)) w.heap.size 28 4 (fun i => if i = 0 then .slice p.a s.n p.ca else if i = 1 then .int .i64 s.t else if i = 2 then .slice p.b s.m p.cb else .slice p.d s.l p.cd)) := BxF.sv _ _ _ _ _
 have HN : Hid (Num (w.alloc (.cells #[.slice p.a s.n p.ca, .int .i64 s.t, .slice p.b s.m p.cb, .slice p.d s.l p.cd] 28)) A m E) := Els.below h BB.out
 have HZ : Hid (z = sB (idsOk s.n m E)) := hz
 have HA : Hid (∀ (x : Int) (w : World), Calls Try.prog 53 #[.agg #[.slice p.a s.n p.ca, .int .i64 s.t, .slice p.b s.m p.cb, .slice p.d s.l p.cd], .int .i64 x] w fun e w' => e = .returned (.bool (sB (0 ≤ x ∧ x < (s.n : Int)))) ∧ Below w.heap.size w w') := fun x w => has_v s p x _ rfl w
 clear h hz
 go_enter Try.func91, Try.ntmps91
 go_wp2
 generalize (w.alloc (.cells #[.slice p.a s.n p.ca, .int .i64 s.t, .slice p.b s.m p.cb, .slice p.d s.l p.cd] 28)) = v0 at *
 obtain ⟨pb, hpb⟩ : ∃ x, x = w.heap.size := ⟨_, rfl⟩
 rw [← hpb] at S1 ⊢
 clear hpb
 go_loopw [9] (fun i wr => ∃ q : Nat, q ≤ m ∧ i = .int .i64 q ∧ (∀ j, j < q → (0 ≤ E j ∧ E j < (s.n : Int)) ∧ (0 < j → E (j - 1) < E j)) ∧ Below v0.heap.size v0 wr) (fun i _ => m - (intOf i).toNat)
 case atStart => exact ⟨0, by omega, rfl, fun j hj => absurd hj (by omega), Below.refl _ _⟩
 case round =>
  obtain ⟨q, hq, rfl, hok, hb⟩ := hrel
  have HK : Hid (∀ j, j < q → (0 ≤ E j ∧ E j < (s.n : Int)) ∧ (0 < j → E (j - 1) < E j)) := hok
  have B1 : Hid (Below w.heap.size w wr) := BB.out.trans (hb.mono BB.out.size)
  have HB : Hid (Below v0.heap.size v0 wr) := hb
  clear hok
  by_cases hlt : q < m
  ·have hlt' : (q : Int) < (m : Int) := by omega
   obtain ⟨b, off, rfl, hc⟩ := (Els.below HN.out hb).opened (by omega)
   have cq : wr.cell? ⟨b, off + q, none⟩ = some (.int .i64 (E q)) := by have := hc q hlt 0 (by omega); simpa [inF] using this
   have s0 := (S1.out.below hb).cell 0 (by omega)
   have s1 := (S1.out.below hb).cell 1 (by omega)
   have s2 := (S1.out.below hb).cell 2 (by omega)
   have s3 := (S1.out.below hb).cell 3 (by omega)
   simp only [if_true, if_false, Nat.one_ne_zero, (by decide : ¬ (2 : Nat) = 0), (by decide : ¬ (2 : Nat) = 1), (by decide : ¬ (3 : Nat) = 0), (by decide : ¬ (3 : Nat) = 1), (by decide : ¬ (3 : Nat) = 2)] at s0 s1 s2 s3
   have CP : Hid (0 < q → ∀ w' : World, Below wr.heap.size wr w' → w'.cell? ⟨b, off + (q - 1), none⟩ = some (.int .i64 (E (q - 1)))) := fun h0 w' hb' => by
    have := hc (q - 1) (by omega) 0 (by omega)
    rw [Nat.mul_one, Nat.add_zero] at this
    rw [hb'.cell (strBlock this)]
    simpa [inF] using this
   by_cases hx : 0 ≤ E q ∧ E q < (s.n : Int)
   ·have HX := HA.out (E q)
    rw [sB_yes hx] at HX
    have HX' : Hid _ := HX
    have HO : Hid (0 ≤ E q ∧ E q < (s.n : Int)) := hx
    clear HX hc hb hx
    generalize hEq : E q = eq at *
    have HE : Hid (E q = eq) := hEq
    clear hEq
    go_wp2_with fail
    clear s0 s1 s2 s3 cq
    refine (HX'.out _).mono ?_
    rintro e w1 ⟨rfl, hb⟩
    have CP1 := fun h0 => CP.out h0 _ hb
    replace HB : Hid (Below v0.heap.size v0 w1) := HB.out.trans (hb.mono HB.out.size)
    replace B1 : Hid (Below w.heap.size w w1) := B1.out.trans (hb.mono B1.out.size)
    clear hb HX' CP
    rcases Nat.eq_zero_or_pos q with hq0 | hq0
    ·have e0 : ¬ (0 : Int) < (q : Int) := by omega
     have N : Hid (∀ j, j < q + 1 → (0 ≤ E j ∧ E j < (s.n : Int)) ∧ (0 < j → E (j - 1) < E j)) := fun j hj => by
      obtain rfl : j = q := by omega
      exact ⟨by rw [HE.out]; exact HO.out, fun h => by omega⟩
     clear hq0 CP1 HO HE
     go_wp2
     go_roundw
     case rel => exact ⟨q + 1, by omega, by go_num, N.out, HB.out⟩
     case measure => simp [intOf]; omega
    ·have e0 : (0 : Int) < (q : Int) := by omega
     have cp := CP1 hq0
     have eq1 : (q : Int) - 1 = ((q - 1 : Nat) : Int) := by omega
     have lt1 : ((q - 1 : Nat) : Int) < (m : Int) := by omega
     have HPr : Hid (∀ x, x = E (q - 1) → x = E (q - 1)) := fun _ h => h
     by_cases hr : E (q - 1) < eq
     ·have e5 : ¬ eq ≤ E (q - 1) := by omega
      have N : Hid (∀ j, j < q + 1 → (0 ≤ E j ∧ E j < (s.n : Int)) ∧ (0 < j → E (j - 1) < E j)) := fun j hj => by
       rcases Nat.lt_or_ge j q with g | g
       ·exact HK.out j g
       ·obtain rfl : j = q := by omega
        exact ⟨by rw [HE.out]; exact HO.out, fun _ => by rw [HE.out]; exact hr⟩
      clear CP1 HO HPr hr HE
      generalize E (q - 1) = ep at *
      generalize q - 1 = qp at *
      go_wp2
      go_roundw
      case rel => exact ⟨q + 1, by omega, by go_num, N.out, HB.out⟩
      case measure => simp [intOf]; omega
     ·have e5 : eq ≤ E (q - 1) := by omega
      have HZ2 : Hid (z = false) := HZ.out.trans (sB_no (fun g => by
       have := (g q hlt).2 hq0
       rw [HE.out] at this
       omega))
      clear CP1 HO HPr hr HE
      generalize E (q - 1) = ep at *
      generalize q - 1 = qp at *
      go_wp2
      go_ret
      exact ⟨by rw [HZ2.out]; rfl, B1.out⟩
   ·have HX := HA.out (E q)
    rw [sB_no hx] at HX
    have HX' : Hid _ := HX
    have HZ2 : Hid (z = false) := HZ.out.trans (sB_no (fun g => hx (g q hlt).1))
    clear HX hc hb hx CP
    generalize E q = eq at *
    go_wp2_with fail
    clear s0 s1 s2 s3 cq
    refine (HX'.out _).mono ?_
    rintro e w1 ⟨rfl, hb⟩
    replace B1 : Hid (Below w.heap.size w w1) := B1.out.trans (hb.mono B1.out.size)
    clear hb HX'
    go_wp2
    go_ret
    exact ⟨by rw [HZ2.out]; rfl, B1.out⟩
  ·have hlt' : ¬ (q : Int) < (m : Int) := by omega
   have HZ2 : Hid (z = true) := HZ.out.trans (sB_yes (fun j hj => HK.out j (by omega)))
   clear hb
   go_wp2
   go_ret
   exact ⟨by rw [HZ2.out]; rfl, B1.out⟩
set_option maxRecDepth 100000 in
set_option maxHeartbeats 1000000 in
theorem times_v (s : Sv) (p : Sa) (b e : Int) (z : Bool) (hz : z = sB (tmOk s.t b e)) (w : World) :
  Calls Try.prog 92 #[.agg #[.slice p.a s.n p.ca, .int .i64 s.t, .slice p.b s.m p.cb, .slice p.d s.l p.cd], .int .i64 b, .int .i64 e] w fun e w' => e = .returned (.bool z) ∧ Below w.heap.size w w' := by
 by_cases h1 : b < 1
 ·obtain rfl : z = false := hz.trans (sB_no (fun q => by have := q.1.1; omega))
  clear hz
  go_enter Try.func92, Try.ntmps92
  go_wp2
  go_ret
  exact ⟨rfl, (Below.refl w.heap.size w).alloc (Nat.le_refl _) _⟩
 by_cases h2 : s.t < b
 ·obtain rfl : z = false := hz.trans (sB_no (fun q => by have := q.1.2; omega))
  clear hz
  go_enter Try.func92, Try.ntmps92
  go_wp2
  go_ret
  exact ⟨rfl, (Below.refl w.heap.size w).alloc (Nat.le_refl _) _⟩
 by_cases h3 : e = -1
 ·obtain rfl : z = true := hz.trans (sB_yes ⟨⟨by omega, by omega⟩, .inl h3⟩)
  subst h3
  clear hz
  go_enter Try.func92, Try.ntmps92
  go_wp2
  go_ret
  exact ⟨rfl, (Below.refl w.heap.size w).alloc (Nat.le_refl _) _⟩
 have e3 : (e == -1) = false := by simp; omega
 by_cases h4 : b ≤ e
 ·by_cases h5 : e ≤ s.t
  ·obtain rfl : z = true := hz.trans (sB_yes ⟨⟨by omega, by omega⟩, .inr ⟨h4, h5⟩⟩)
   clear hz h3
   go_enter Try.func92, Try.ntmps92
   go_wp2
   go_ret
   exact ⟨rfl, (Below.refl w.heap.size w).alloc (Nat.le_refl _) _⟩
  ·obtain rfl : z = false := hz.trans (sB_no (fun q => by rcases q.2 with y | y <;> omega))
   clear hz h3
   go_enter Try.func92, Try.ntmps92
   go_wp2
   go_ret
   exact ⟨rfl, (Below.refl w.heap.size w).alloc (Nat.le_refl _) _⟩
 ·obtain rfl : z = false := hz.trans (sB_no (fun q => by rcases q.2 with y | y <;> omega))
  clear hz h3
  go_enter Try.func92, Try.ntmps92
  go_wp2
  go_ret
  exact ⟨rfl, (Below.refl w.heap.size w).alloc (Nat.le_refl _) _⟩
end Go.Proofs.Ytedncfcmhaaobaa
