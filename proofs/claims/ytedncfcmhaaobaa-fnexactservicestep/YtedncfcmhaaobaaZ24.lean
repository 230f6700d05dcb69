/-
  Texts of the proof, joined: SvcQ.
-/
import Derived.Test.YtedncfcmhaaobaaZ23
namespace Go.Proofs.Ytedncfcmhaaobaa
open Go.ChangeShapes Go.WideShapes Go.ChangeAt Go.RowKit
set_option linter.unusedVariables false
set_option maxRecDepth 100000 in
set_option maxHeartbeats 1000000 in
theorem clo1_v (s : Sv) (p : Sa) (r : Rp) (A : Option Addr) (X : Nat) (hm : r.ne ≤ 1048576) (sb : Nat) (w : World) (S : BxF w sb 28 4 (fun i => if i = 0 then .slice p.a s.n p.ca else if i = 1 then .int .i64 s.t else if i = 2 then .slice p.b s.m p.cb else .slice p.d s.l p.cd)) (h : Num w A r.ne r.E) :
  Calls Try.prog 61 #[.agg #[.bool r.mute, .int .i64 r.nc, .int .i64 r.nt, .int .i64 r.sc, .int .i64 r.st, .slice A r.ne X, .int .i64 r.bc, .int .i64 r.bt], .pointer (some ⟨sb, 0, none⟩)] w fun e w' => e = .returned (.bool (sB (¬ r.Ok s.n))) ∧ Below w.heap.size w w' := by
 have BB : Hid (Below w.heap.size w (w.alloc (.cells #[.bool r.mute, .int .i64 r.nc, .int .i64 r.nt, .int .i64 r.sc, .int .i64 r.st, .slice A r.ne X, .int .i64 r.bc, .int .i64 r.bt] 43))) := (Below.refl w.heap.size w).alloc (Nat.le_refl _) _
 have CC : Hid (Calls Try.prog 62 #[.agg #[.slice p.a s.n p.ca, .int .i64 s.t, .slice p.b s.m p.cb, .slice p.d s.l p.cd], .agg #[.bool r.mute, .int .i64 r.nc, .int .i64 r.nt, .int .i64 r.sc, .int .i64 r.st, .slice A r.ne X, .int .i64 r.bc, .int .i64 r.bt]] (w.alloc (.cells #[.bool r.mute, .int .i64 r.nc, .int .i64 r.nt, .int .i64 r.sc, .int .i64 r.st, .slice A r.ne X, .int .i64 r.bc, .int .i64 r.bt] 43)) fun e w' => e = .returned (.bool (sB (r.Ok s.n))) ∧ Below (w.alloc (.cells #[.bool r.mute, .int .i64 r.nc, .int .i64 r.nt, .int .i64 r.sc, .int .i64 r.st, .slice A r.ne X, .int .i64 r.bc, .int .i64 r.bt] 43)).heap.size (w.alloc (.cells #[.bool r.mute, .int .i64 r.nc, .int .i64 r.nt, .int .i64 r.sc, .int .i64 r.st, .slice A r.ne X, .int .i64 r.bc, .int .i64 r.bt] 43)) w') := rep_v s p r A X hm _ rfl _ (Els.below h BB.out)
 have S1 := S.alloc (.cells #[.bool r.mute, .int .i64 r.nc, .int .i64 r.nt, .int .i64 r.sc, .int .i64 r.st, .slice A r.ne X, .int .i64 r.bc, .int .i64 r.bt] 43)
 have t0 : (w.alloc (.cells #[.bool r.mute, .int .i64 r.nc, .int .i64 r.nt, .int .i64 r.sc, .int .i64 r.st, .slice A r.ne X, .int .i64 r.bc, .int .i64 r.bt] 43)).cell? ⟨sb, 0, none⟩ = some (.slice p.a s.n p.ca) := S1.cell 0 (by omega)
 have t1 : (w.alloc (.cells #[.bool r.mute, .int .i64 r.nc, .int .i64 r.nt, .int .i64 r.sc, .int .i64 r.st, .slice A r.ne X, .int .i64 r.bc, .int .i64 r.bt] 43)).cell? ⟨sb, 1, none⟩ = some (.int .i64 s.t) := S1.cell 1 (by omega)
 have t2 : (w.alloc (.cells #[.bool r.mute, .int .i64 r.nc, .int .i64 r.nt, .int .i64 r.sc, .int .i64 r.st, .slice A r.ne X, .int .i64 r.bc, .int .i64 r.bt] 43)).cell? ⟨sb, 2, none⟩ = some (.slice p.b s.m p.cb) := S1.cell 2 (by omega)
 have t3 : (w.alloc (.cells #[.bool r.mute, .int .i64 r.nc, .int .i64 r.nt, .int .i64 r.sc, .int .i64 r.st, .slice A r.ne X, .int .i64 r.bc, .int .i64 r.bt] 43)).cell? ⟨sb, 3, none⟩ = some (.slice p.d s.l p.cd) := S1.cell 3 (by omega)
 clear S1 S h
 by_cases ok : r.Ok s.n
 ·rw [sB_yes ok] at CC
  rw [show sB (¬ r.Ok s.n) = false from sB_no (fun y => y ok)]
  clear ok
  go_enter Try.func61, Try.ntmps61
  go_wp2_with fail
  refine CC.out.mono ?_
  rintro e w1 ⟨rfl, hb⟩
  have B1 : Hid (Below w.heap.size w w1) := BB.out.trans (hb.mono BB.out.size)
  clear hb CC BB t0 t1 t2 t3
  go_wp2
  go_ret
  exact ⟨rfl, B1.out⟩
 ·rw [sB_no ok] at CC
  rw [show sB (¬ r.Ok s.n) = true from sB_yes ok]
  clear ok
  go_enter Try.func61, Try.ntmps61
  go_wp2_with fail
  refine CC.out.mono ?_
  rintro e w1 ⟨rfl, hb⟩
  have B1 : Hid (Below w.heap.size w w1) := BB.out.trans (hb.mono BB.out.size)
  clear hb CC BB t0 t1 t2 t3
  go_wp2
  go_ret
  exact ⟨rfl, B1.out⟩
set_option maxRecDepth 100000 in
set_option maxHeartbeats 1000000 in
theorem clo2_v (s : Sv) (p : Sa) (r : Ro) (A : Option Addr) (X : Nat) (hm : r.ne ≤ 1048576) (sb : Nat) (w : World) (S : BxF w sb 28 4 (fun i => if i = 0 then .slice p.a s.n p.ca else if i = 1 then .int .i64 s.t else if i = 2 then .slice p.b s.m p.cb else .slice p.d s.l p.cd)) (h : Num w A r.ne r.E) :
  Calls Try.prog 63 #[.agg #[.slice A r.ne X, .int .i64 r.bc, .int .i64 r.bt, .int .i64 r.bg, .int .i64 r.en], .pointer (some ⟨sb, 0, none⟩)] w fun e w' => e = .returned (.bool (sB (¬ r.Ok s.n s.t))) ∧ Below w.heap.size w w' := by
 have BB : Hid (Below w.heap.size w (w.alloc (.cells #[.slice A r.ne X, .int .i64 r.bc, .int .i64 r.bt, .int .i64 r.bg, .int .i64 r.en] 90))) := (Below.refl w.heap.size w).alloc (Nat.le_refl _) _
 have CC : Hid (Calls Try.prog 64 #[.agg #[.slice p.a s.n p.ca, .int .i64 s.t, .slice p.b s.m p.cb, .slice p.d s.l p.cd], .agg #[.slice A r.ne X, .int .i64 r.bc, .int .i64 r.bt, .int .i64 r.bg, .int .i64 r.en]] (w.alloc (.cells #[.slice A r.ne X, .int .i64 r.bc, .int .i64 r.bt, .int .i64 r.bg, .int .i64 r.en] 90)) fun e w' => e = .returned (.bool (sB (r.Ok s.n s.t))) ∧ Below (w.alloc (.cells #[.slice A r.ne X, .int .i64 r.bc, .int .i64 r.bt, .int .i64 r.bg, .int .i64 r.en] 90)).heap.size (w.alloc (.cells #[.slice A r.ne X, .int .i64 r.bc, .int .i64 r.bt, .int .i64 r.bg, .int .i64 r.en] 90)) w') := rea_v s p r A X hm _ rfl _ (Els.below h BB.out)
 have S1 := S.alloc (.cells #[.slice A r.ne X, .int .i64 r.bc, .int .i64 r.bt, .int .i64 r.bg, .int .i64 r.en] 90)
 have t0 : (w.alloc (.cells #[.slice A r.ne X, .int .i64 r.bc, .int .i64 r.bt, .int .i64 r.bg, .int .i64 r.en] 90)).cell? ⟨sb, 0, none⟩ = some (.slice p.a s.n p.ca) := S1.cell 0 (by omega)
 have t1 : (w.alloc (.cells #[.slice A r.ne X, .int .i64 r.bc, .int .i64 r.bt, .int .i64 r.bg, .int .i64 r.en] 90)).cell? ⟨sb, 1, none⟩ = some (.int .i64 s.t) := S1.cell 1 (by omega)
 have t2 : (w.alloc (.cells #[.slice A r.ne X, .int .i64 r.bc, .int .i64 r.bt, .int .i64 r.bg, .int .i64 r.en] 90)).cell? ⟨sb, 2, none⟩ = some (.slice p.b s.m p.cb) := S1.cell 2 (by omega)
 have t3 : (w.alloc (.cells #[.slice A r.ne X, .int .i64 r.bc, .int .i64 r.bt, .int .i64 r.bg, .int .i64 r.en] 90)).cell? ⟨sb, 3, none⟩ = some (.slice p.d s.l p.cd) := S1.cell 3 (by omega)
 clear S1 S h
 by_cases ok : r.Ok s.n s.t
 ·rw [sB_yes ok] at CC
  rw [show sB (¬ r.Ok s.n s.t) = false from sB_no (fun y => y ok)]
  clear ok
  go_enter Try.func63, Try.ntmps63
  go_wp2_with fail
  refine CC.out.mono ?_
  rintro e w1 ⟨rfl, hb⟩
  have B1 : Hid (Below w.heap.size w w1) := BB.out.trans (hb.mono BB.out.size)
  clear hb CC BB t0 t1 t2 t3
  go_wp2
  go_ret
  exact ⟨rfl, B1.out⟩
 ·rw [sB_no ok] at CC
  rw [show sB (¬ r.Ok s.n s.t) = true from sB_yes ok]
  clear ok
  go_enter Try.func63, Try.ntmps63
  go_wp2_with fail
  refine CC.out.mono ?_
  rintro e w1 ⟨rfl, hb⟩
  have B1 : Hid (Below w.heap.size w w1) := BB.out.trans (hb.mono BB.out.size)
  clear hb CC BB t0 t1 t2 t3
  go_wp2
  go_ret
  exact ⟨rfl, B1.out⟩
def FoundRp (n : Nat) (Bad : Nat → Prop) (e : Ending) : Prop := ∃ r : Int, e = .returned (.int .i64 r) ∧ (0 ≤ r ∧ (∃ i, i < n ∧ Bad i) ∨ r = -1 ∧ ∀ i, i < n → ¬ Bad i)
set_option maxRecDepth 100000 in
set_option maxHeartbeats 1000000 in
theorem indexRp (sb : Nat) (a : Option Addr) (n c : Nat) (R : Nat → Rp) (A : Nat → Option Addr) (X : Nat → Nat) (Bad : Nat → Prop) (hn : n ≤ 1048576) (w : World) (h : RpV w a n R A X)
  (hcl : ∀ i, i < n → ∀ u : World, Below w.heap.size w u → Calls Try.prog 61 #[.agg #[.bool (R i).mute, .int .i64 (R i).nc, .int .i64 (R i).nt, .int .i64 (R i).sc, .int .i64 (R i).st, .slice (A i) (R i).ne (X i), .int .i64 (R i).bc, .int .i64 (R i).bt], .pointer (some ⟨sb, 0, none⟩)] u fun e u' => e = .returned (.bool (sB (Bad i))) ∧ Below u.heap.size u u') :
  Calls Try.prog 93 #[.slice a n c, .func (.func 61) #[] #[.pointer (some ⟨sb, 0, none⟩)]] w fun e w' => FoundRp n Bad e ∧ Below w.heap.size w w' := by
 have H : Hid (RpV w a n R A X) := h
 have HC : Hid (∀ i, i < n → ∀ u : World, Below w.heap.size w u → Calls Try.prog 61 #[.agg #[.bool (R i).mute, .int .i64 (R i).nc, .int .i64 (R i).nt, .int .i64 (R i).sc, .int .i64 (R i).st, .slice (A i) (R i).ne (X i), .int .i64 (R i).bc, .int .i64 (R i).bt], .pointer (some ⟨sb, 0, none⟩)] u fun e u' => e = .returned (.bool (sB (Bad i))) ∧ Below u.heap.size u u') := hcl
 clear h hcl
 go_enter Try.func93, Try.ntmps93
 go_wp2
 go_loopw [8] (fun i wr => ∃ k : Nat, k ≤ n ∧ i = .int .i64 k ∧ (∀ j, j < k → ¬ Bad j) ∧ Below w.heap.size w wr) (fun i _ => n - (intOf i).toNat)
 case atStart => exact ⟨0, by omega, rfl, fun j hj => absurd hj (by omega), Below.refl _ _⟩
 case round =>
  obtain ⟨k, hk, rfl, hok, hb⟩ := hrel
  have HB : Hid (Below w.heap.size w wr) := hb
  have HK : Hid (∀ j, j < k → ¬ Bad j) := hok
  clear hok
  by_cases hlt : k < n
  ·have hlt' : (k : Int) < (n : Int) := by omega
   obtain ⟨b, off, rfl, hc⟩ := (H.out.below hb).at hlt
   have c0 : wr.cell? ⟨b, off + k * 8, none⟩ = some (.bool (R k).mute) := hc 0 (by omega)
   have c1 : wr.cell? ⟨b, off + k * 8 + 1, none⟩ = some (.int .i64 (R k).nc) := hc 1 (by omega)
   have c2 : wr.cell? ⟨b, off + k * 8 + 2, none⟩ = some (.int .i64 (R k).nt) := hc 2 (by omega)
   have c3 : wr.cell? ⟨b, off + k * 8 + 3, none⟩ = some (.int .i64 (R k).sc) := hc 3 (by omega)
   have c4 : wr.cell? ⟨b, off + k * 8 + 4, none⟩ = some (.int .i64 (R k).st) := hc 4 (by omega)
   have c5 : wr.cell? ⟨b, off + k * 8 + 5, none⟩ = some (.slice (A k) (R k).ne (X k)) := hc 5 (by omega)
   have c6 : wr.cell? ⟨b, off + k * 8 + 6, none⟩ = some (.int .i64 (R k).bc) := hc 6 (by omega)
   have c7 : wr.cell? ⟨b, off + k * 8 + 7, none⟩ = some (.int .i64 (R k).bt) := hc 7 (by omega)
   have WM := HC.out k hlt wr hb
   by_cases ho : Bad k
   ·rw [sB_yes ho] at WM
    have W1 : Hid _ := WM
    have HF : Hid (FoundRp n Bad (.returned (.int .i64 (k : Int)))) := ⟨k, rfl, .inl ⟨by omega, k, hlt, ho⟩⟩
    clear hc hb WM ho
    generalize R k = rk at *
    generalize A k = ak at *
    generalize X k = xk at *
    go_wp2_with fail
    refine Calls.mono W1.out ?_
    rintro e w1 ⟨rfl, hb⟩
    have B1 : Hid (Below w.heap.size w w1) := HB.out.trans (hb.mono HB.out.size)
    clear hb HB W1 c0 c1 c2 c3 c4 c5 c6 c7
    go_wp2
    go_ret
    exact ⟨HF.out, B1.out⟩
   ·rw [sB_no ho] at WM
    have W1 : Hid _ := WM
    have HO : Hid (∀ j, j < k + 1 → ¬ Bad j) := fun j hj => by
     rcases Nat.lt_or_ge j k with q | q
     ·exact HK.out j q
     ·obtain rfl : j = k := by omega
      exact ho
    clear hc hb WM ho
    generalize R k = rk at *
    generalize A k = ak at *
    generalize X k = xk at *
    go_wp2_with fail
    refine Calls.mono W1.out ?_
    rintro e w1 ⟨rfl, hb⟩
    have B1 : Hid (Below w.heap.size w w1) := HB.out.trans (hb.mono HB.out.size)
    clear hb HB W1 c0 c1 c2 c3 c4 c5 c6 c7
    go_wp2
    go_roundw
    case rel => exact ⟨k + 1, by omega, by go_num, HO.out, B1.out⟩
    case measure => simp [intOf]; omega
  ·have hlt' : ¬ (k : Int) < (n : Int) := by omega
   have HF : Hid (FoundRp n Bad (.returned (.int .i64 (-1)))) := ⟨-1, rfl, .inr ⟨rfl, fun j hj => HK.out j (by omega)⟩⟩
   clear hb
   go_wp2
   go_ret
   exact ⟨HF.out, HB.out⟩
set_option maxRecDepth 100000 in
theorem containsRp (sb : Nat) (a : Option Addr) (n c : Nat) (R : Nat → Rp) (A : Nat → Option Addr) (X : Nat → Nat) (Bad : Nat → Prop) (hn : n ≤ 1048576) (w : World) (h : RpV w a n R A X)
  (hcl : ∀ i, i < n → ∀ u : World, Below w.heap.size w u → Calls Try.prog 61 #[.agg #[.bool (R i).mute, .int .i64 (R i).nc, .int .i64 (R i).nt, .int .i64 (R i).sc, .int .i64 (R i).st, .slice (A i) (R i).ne (X i), .int .i64 (R i).bc, .int .i64 (R i).bt], .pointer (some ⟨sb, 0, none⟩)] u fun e u' => e = .returned (.bool (sB (Bad i))) ∧ Below u.heap.size u u') (z : Bool) (hz : z = sB (∃ i, i < n ∧ Bad i)) :
  Calls Try.prog 65 #[.slice a n c, .func (.func 61) #[] #[.pointer (some ⟨sb, 0, none⟩)]] w fun e w' => e = .returned (.bool z) ∧ Below w.heap.size w w' := by
 have IX : Hid (Calls Try.prog 93 #[.slice a n c, .func (.func 61) #[] #[.pointer (some ⟨sb, 0, none⟩)]] w fun e w' => FoundRp n Bad e ∧ Below w.heap.size w w') := indexRp sb a n c R A X Bad hn w h hcl
 have HZ : Hid (z = sB (∃ i, i < n ∧ Bad i)) := hz
 clear h hz hcl
 go_enter Try.func65, Try.ntmps65
 go_wp2_with fail
 refine IX.out.mono ?_
 rintro e w1 ⟨⟨r, rfl, hr⟩, hb⟩
 have HB : Hid (Below w.heap.size w w1) := hb
 rcases hr with ⟨h0, h1⟩ | ⟨rfl, h1⟩
 ·have HZ2 : Hid (z = true) := HZ.out.trans (sB_yes h1)
  clear h1 hb
  go_wp2
  go_ret
  exact ⟨by rw [HZ2.out]; rfl, HB.out⟩
 ·have HZ2 : Hid (z = false) := HZ.out.trans (sB_no (fun ⟨i, hi, q⟩ => h1 i hi q))
  clear h1 hb
  go_wp2
  go_ret
  exact ⟨by rw [HZ2.out]; rfl, HB.out⟩
def FoundRo (n : Nat) (Bad : Nat → Prop) (e : Ending) : Prop := ∃ r : Int, e = .returned (.int .i64 r) ∧ (0 ≤ r ∧ (∃ i, i < n ∧ Bad i) ∨ r = -1 ∧ ∀ i, i < n → ¬ Bad i)
set_option maxRecDepth 100000 in
set_option maxHeartbeats 1000000 in
theorem indexRo (sb : Nat) (a : Option Addr) (n c : Nat) (R : Nat → Ro) (A : Nat → Option Addr) (X : Nat → Nat) (Bad : Nat → Prop) (hn : n ≤ 1048576) (w : World) (h : RoV w a n R A X)
  (hcl : ∀ i, i < n → ∀ u : World, Below w.heap.size w u → Calls Try.prog 63 #[.agg #[.slice (A i) (R i).ne (X i), .int .i64 (R i).bc, .int .i64 (R i).bt, .int .i64 (R i).bg, .int .i64 (R i).en], .pointer (some ⟨sb, 0, none⟩)] u fun e u' => e = .returned (.bool (sB (Bad i))) ∧ Below u.heap.size u u') :
  Calls Try.prog 94 #[.slice a n c, .func (.func 63) #[] #[.pointer (some ⟨sb, 0, none⟩)]] w fun e w' => FoundRo n Bad e ∧ Below w.heap.size w w' := by
 have H : Hid (RoV w a n R A X) := h
 have HC : Hid (∀ i, i < n → ∀ u : World, Below w.heap.size w u → Calls Try.prog 63 #[.agg #[.slice (A i) (R i).ne (X i), .int .i64 (R i).bc, .int .i64 (R i).bt, .int .i64 (R i).bg, .int .i64 (R i).en], .pointer (some ⟨sb, 0, none⟩)] u fun e u' => e = .returned (.bool (sB (Bad i))) ∧ Below u.heap.size u u') := hcl
 clear h hcl
 go_enter Try.func94, Try.ntmps94
 go_wp2
 go_loopw [8] (fun i wr => ∃ k : Nat, k ≤ n ∧ i = .int .i64 k ∧ (∀ j, j < k → ¬ Bad j) ∧ Below w.heap.size w wr) (fun i _ => n - (intOf i).toNat)
 case atStart => exact ⟨0, by omega, rfl, fun j hj => absurd hj (by omega), Below.refl _ _⟩
 case round =>
  obtain ⟨k, hk, rfl, hok, hb⟩ := hrel
  have HB : Hid (Below w.heap.size w wr) := hb
  have HK : Hid (∀ j, j < k → ¬ Bad j) := hok
  clear hok
  by_cases hlt : k < n
  ·have hlt' : (k : Int) < (n : Int) := by omega
   obtain ⟨b, off, rfl, hc⟩ := (H.out.below hb).at hlt
   have c0 : wr.cell? ⟨b, off + k * 5, none⟩ = some (.slice (A k) (R k).ne (X k)) := hc 0 (by omega)
   have c1 : wr.cell? ⟨b, off + k * 5 + 1, none⟩ = some (.int .i64 (R k).bc) := hc 1 (by omega)
   have c2 : wr.cell? ⟨b, off + k * 5 + 2, none⟩ = some (.int .i64 (R k).bt) := hc 2 (by omega)
   have c3 : wr.cell? ⟨b, off + k * 5 + 3, none⟩ = some (.int .i64 (R k).bg) := hc 3 (by omega)
   have c4 : wr.cell? ⟨b, off + k * 5 + 4, none⟩ = some (.int .i64 (R k).en) := hc 4 (by omega)
   have WM := HC.out k hlt wr hb
   by_cases ho : Bad k
   ·rw [sB_yes ho] at WM
    have W1 : Hid _ := WM
    have HF : Hid (FoundRo n Bad (.returned (.int .i64 (k : Int)))) := ⟨k, rfl, .inl ⟨by omega, k, hlt, ho⟩⟩
    clear hc hb WM ho
    generalize R k = rk at *
    generalize A k = ak at *
    generalize X k = xk at *
    go_wp2_with fail
    refine Calls.mono W1.out ?_
    rintro e w1 ⟨rfl, hb⟩
    have B1 : Hid (Below w.heap.size w w1) := HB.out.trans (hb.mono HB.out.size)
    clear hb HB W1 c0 c1 c2 c3 c4
    go_wp2
    go_ret
    exact ⟨HF.out, B1.out⟩
   ·rw [sB_no ho] at WM
    have W1 : Hid _ := WM
    have HO : Hid (∀ j, j < k + 1 → ¬ Bad j) := fun j hj => by
     rcases Nat.lt_or_ge j k with q | q
     ·exact HK.out j q
     ·obtain rfl : j = k := by omega
      exact ho
    clear hc hb WM ho
    generalize R k = rk at *
    generalize A k = ak at *
    generalize X k = xk at *
    go_wp2_with fail
    refine Calls.mono W1.out ?_
    rintro e w1 ⟨rfl, hb⟩
    have B1 : Hid (Below w.heap.size w w1) := HB.out.trans (hb.mono HB.out.size)
    clear hb HB W1 c0 c1 c2 c3 c4
    go_wp2
    go_roundw
    case rel => exact ⟨k + 1, by omega, by go_num, HO.out, B1.out⟩
    case measure => simp [intOf]; omega
  ·have hlt' : ¬ (k : Int) < (n : Int) := by omega
   have HF : Hid (FoundRo n Bad (.returned (.int .i64 (-1)))) := ⟨-1, rfl, .inr ⟨rfl, fun j hj => HK.out j (by omega)⟩⟩
   clear hb
   go_wp2
   go_ret
   exact ⟨HF.out, HB.out⟩
set_option maxRecDepth 100000 in
theorem containsRo (sb : Nat) (a : Option Addr) (n c : Nat) (R : Nat → Ro) (A : Nat → Option Addr) (X : Nat → Nat) (Bad : Nat → Prop) (hn : n ≤ 1048576) (w : World) (h : RoV w a n R A X)
  (hcl : ∀ i, i < n → ∀ u : World, Below w.heap.size w u → Calls Try.prog 63 #[.agg #[.slice (A i) (R i).ne (X i), .int .i64 (R i).bc, .int .i64 (R i).bt, .int .i64 (R i).bg, .int .i64 (R i).en], .pointer (some ⟨sb, 0, none⟩)] u fun e u' => e = .returned (.bool (sB (Bad i))) ∧ Below u.heap.size u u') (z : Bool) (hz : z = sB (∃ i, i < n ∧ Bad i)) :
  Calls Try.prog 66 #[.slice a n c, .func (.func 63) #[] #[.pointer (some ⟨sb, 0, none⟩)]] w fun e w' => e = .returned (.bool z) ∧ Below w.heap.size w w' := by
 have IX : Hid (Calls Try.prog 94 #[.slice a n c, .func (.func 63) #[] #[.pointer (some ⟨sb, 0, none⟩)]] w fun e w' => FoundRo n Bad e ∧ Below w.heap.size w w') := indexRo sb a n c R A X Bad hn w h hcl
 have HZ : Hid (z = sB (∃ i, i < n ∧ Bad i)) := hz
 clear h hz hcl
 go_enter Try.func66, Try.ntmps66
 go_wp2_with fail
 refine IX.out.mono ?_
 rintro e w1 ⟨⟨r, rfl, hr⟩, hb⟩
 have HB : Hid (Below w.heap.size w w1) := hb
 rcases hr with ⟨h0, h1⟩ | ⟨rfl, h1⟩
 ·have HZ2 : Hid (z = true) := HZ.out.trans (sB_yes h1)
  clear h1 hb
  go_wp2
  go_ret
  exact ⟨by rw [HZ2.out]; rfl, HB.out⟩
 ·have HZ2 : Hid (z = false) := HZ.out.trans (sB_no (fun ⟨i, hi, q⟩ => h1 i hi q))
  clear h1 hb
  go_wp2
  go_ret
  exact ⟨by rw [HZ2.out]; rfl, HB.out⟩
end Go.Proofs.Ytedncfcmhaaobaa
