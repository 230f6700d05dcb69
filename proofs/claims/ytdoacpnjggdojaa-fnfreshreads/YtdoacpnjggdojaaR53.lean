/-
  Texts of the proof, joined: SvcV.
-/
import Derived.Test.YtdoacpnjggdojaaR30
import Derived.Test.YtdoacpnjggdojaaR29
namespace Go.Proofs.Ytdoacpnjggdojaa
open Go.ChangeShapes Go.WideShapes Go.ChangeAt Go.RowKit
set_option linter.unusedVariables false
set_option maxRecDepth 100000 in
set_option maxHeartbeats 8000000 in
theorem specFr_v (s : Sv) (p : Sa) (hx : s.max 1048576) (z : Bool) (c : Int) (hz : FrIs s z c) (w : World) (h : SvV w s p) :
  Calls Try.prog 13 #[.agg #[.slice p.a s.n p.ca, .int .i64 s.t, .slice p.b s.m p.cb, .slice p.d s.l p.cd]] w fun e w' => e = .returned (.tuple #[.bool z, .int .i64 c]) ∧ Below w.heap.size w w' := by
 have IK : Hid (∀ (r : Bool) (w : World), r = sB s.Ok → SvV w s p → Calls Try.prog 44 #[.agg #[.slice p.a s.n p.ca, .int .i64 s.t, .slice p.b s.m p.cb, .slice p.d s.l p.cd]] w fun e w' => e = .returned (.bool r) ∧ Below w.heap.size w w') := fun r w hr h => specSvOK_v s p hx r hr w h
 obtain ⟨pa, pb, pd, PA, PB, PD, PX, PY, PZ, ca, cb, cd⟩ := p
 dsimp only at IK ⊢
 have BB : Hid (Below w.heap.size w (w.alloc (.cells #[.slice pa s.n ca, .int .i64 s.t, .slice pb s.m cb, .slice pd s.l cd] 30))) := (Below.refl w.heap.size w).alloc (Nat.le_refl _) _
 have S1 : Hid (BxF (w.alloc (.cells #[.slice pa s.n ca, .int .i64 s.t, .slice pb s.m cb, .slice pd s.l cd] 30)) w.heap.size 30 4 (fun i => if i = 0 then .slice pa s.n ca else if i = 1 then .int .i64 s.t else if i = 2 then .slice pb s.m cb else .slice pd s.l cd)) := BxF.sv _ _ _ _ _
 have HV : Hid (SvV (w.alloc (.cells #[.slice pa s.n ca, .int .i64 s.t, .slice pb s.m cb, .slice pd s.l cd] 30)) s ⟨pa, pb, pd, PA, PB, PD, PX, PY, PZ, ca, cb, cd⟩) := h.below BB.out
 have hsm : s.m ≤ 1048576 := hx.2.1.1
 have hsl : s.l ≤ 1048576 := hx.2.2.1
 rcases hz with ⟨ok, rfl, rfl⟩ | ⟨ok, hz, rfl⟩
 ·have RB : Hid (false = sB s.Ok) := (sB_no ok).symm
  clear ok h hx
  go_enter Try.func13, Try.ntmps13
  go_wp2_with fail
  generalize (w.alloc (.cells #[.slice pa s.n ca, .int .i64 s.t, .slice pb s.m cb, .slice pd s.l cd] 30)) = v0 at *
  refine (IK.out false _ RB.out HV.out).mono ?_
  rintro e v1 ⟨rfl, hb⟩
  replace BB : Hid (Below w.heap.size w v1) := BB.out.trans (hb.mono BB.out.size)
  clear hb S1 HV IK RB
  go_wp2
  go_ret2
  exact ⟨rfl, BB.out⟩
 ·have RB : Hid (true = sB s.Ok) := (sB_yes ok).symm
  have HZ : Hid (z = sB (¬ ∃ i, i < s.l ∧ Stale s i)) := hz
  have EW : Hid (∀ k, k < s.m → (s.W k).en = -1 ∨ 0 ≤ (s.W k).en) := fun k hk => by
   have := (ok.2.1 k hk).2.2.2.2
   rcases this.2 with y | y
   ·exact .inl y
   ·exact .inr (by have := this.1; omega)
  have EQ : Hid (∀ k, k < s.l → (s.Q k).en = -1 ∨ 0 ≤ (s.Q k).en) := fun k hk => by
   have := (ok.2.2.2 k hk).2.2
   rcases this.2 with y | y
   ·exact .inl y
   ·exact .inr (by have := this.1; omega)
  clear ok hz h hx
  go_enter Try.func13, Try.ntmps13
  go_wp2_with fail
  generalize (w.alloc (.cells #[.slice pa s.n ca, .int .i64 s.t, .slice pb s.m cb, .slice pd s.l cd] 30)) = v0 at *
  obtain ⟨sb, hsb⟩ : ∃ x, x = w.heap.size := ⟨_, rfl⟩
  rw [← hsb] at S1 ⊢
  clear hsb
  refine (IK.out true _ RB.out HV.out).mono ?_
  rintro e v1 ⟨rfl, hb⟩
  replace BB : Hid (Below w.heap.size w v1) := BB.out.trans (hb.mono BB.out.size)
  replace S1 : Hid (BxF v1 sb 30 4 (fun i => if i = 0 then .slice pa s.n ca else if i = 1 then .int .i64 s.t else if i = 2 then .slice pb s.m cb else .slice pd s.l cd)) := S1.out.below hb
  replace HV : Hid (SvV v1 s ⟨pa, pb, pd, PA, PB, PD, PX, PY, PZ, ca, cb, cd⟩) := HV.out.below hb
  clear hb IK RB
  go_wp2
  go_loopw [4] (fun i wr => ∃ q : Nat, q ≤ s.l ∧ i = .int .i64 q ∧ (∀ j, j < q → ¬ Stale s j) ∧ Below v1.heap.size v1 wr) (fun i _ => s.l - (intOf i).toNat)
  case atStart => exact ⟨0, by omega, rfl, fun j hj => absurd hj (by omega), Below.refl _ _⟩
  case round =>
   obtain ⟨q, hq, rfl, hok, hb⟩ := hrel
   have HK : Hid (∀ j, j < q → ¬ Stale s j) := hok
   have HB : Hid (Below v1.heap.size v1 wr) := hb
   replace BB : Hid (Below w.heap.size w wr) := BB.out.trans (hb.mono BB.out.size)
   replace S1 : Hid (BxF wr sb 30 4 (fun i => if i = 0 then .slice pa s.n ca else if i = 1 then .int .i64 s.t else if i = 2 then .slice pb s.m cb else .slice pd s.l cd)) := S1.out.below hb
   replace HV : Hid (SvV wr s ⟨pa, pb, pd, PA, PB, PD, PX, PY, PZ, ca, cb, cd⟩) := HV.out.below hb
   clear hok hb
   by_cases hlt : q < s.l
   ·have hlt' : (q : Int) < (s.l : Int) := by omega
    have EQq := EQ.out q hlt
    have YES : Hid (Stale s q → z = false) := fun y => HZ.out.trans (sB_no (fun g => g ⟨q, hlt, y⟩))
    have NO : Hid (¬ Stale s q → ∀ j, j < q + 1 → ¬ Stale s j) := fun y j hj => by
     rcases Nat.lt_or_ge j q with g | g
     ·exact HK.out j g
     ·obtain rfl : j = q := by omega
      exact y
    have DF : Hid (Stale s q ↔ ¬ (s.Q q).en = -1 ∧ ∃ k, k < s.m ∧ Ack s (s.Q q).bg k ∧ (s.Q q).bc < (s.W k).mc) := Iff.rfl
    generalize Stale s q = SQ at *
    obtain ⟨bq, offbq, rfl, hc⟩ := HV.out.2.2.at hlt
    generalize hR : s.Q q = r at *
    generalize hA : PD q = A at *
    generalize hX : PZ q = X at *
    have bq_0 : wr.cell? ⟨bq, offbq + q * 5, none⟩ = some (.slice A r.ne X) := by have := hc 0 (by omega); simpa [woF, woV, roF, roV, hA, hX, hR] using this
    have bq_1 : wr.cell? ⟨bq, offbq + q * 5 + 1, none⟩ = some (.int .i64 r.bc) := by have := hc 1 (by omega); simpa [woF, woV, roF, roV, hA, hX, hR] using this
    have bq_2 : wr.cell? ⟨bq, offbq + q * 5 + 2, none⟩ = some (.int .i64 r.bt) := by have := hc 2 (by omega); simpa [woF, woV, roF, roV, hA, hX, hR] using this
    have bq_3 : wr.cell? ⟨bq, offbq + q * 5 + 3, none⟩ = some (.int .i64 r.bg) := by have := hc 3 (by omega); simpa [woF, woV, roF, roV, hA, hX, hR] using this
    have bq_4 : wr.cell? ⟨bq, offbq + q * 5 + 4, none⟩ = some (.int .i64 r.en) := by have := hc 4 (by omega); simpa [woF, woV, roF, roV, hA, hX, hR] using this
    clear hc hA hX hR HK HZ EQ
    have WB : Below wr.heap.size wr (wr.alloc (.cells #[.slice A r.ne X, .int .i64 r.bc, .int .i64 r.bt, .int .i64 r.bg, .int .i64 r.en] 41)) := (Below.refl _ _).alloc (Nat.le_refl _) _
    replace BB : Hid (Below w.heap.size w (wr.alloc (.cells #[.slice A r.ne X, .int .i64 r.bc, .int .i64 r.bt, .int .i64 r.bg, .int .i64 r.en] 41))) := BB.out.trans (WB.mono BB.out.size)
    replace HB : Hid (Below v1.heap.size v1 (wr.alloc (.cells #[.slice A r.ne X, .int .i64 r.bc, .int .i64 r.bt, .int .i64 r.bg, .int .i64 r.en] 41))) := HB.out.trans (WB.mono HB.out.size)
    have R1 : Hid (BxF (wr.alloc (.cells #[.slice A r.ne X, .int .i64 r.bc, .int .i64 r.bt, .int .i64 r.bg, .int .i64 r.en] 41)) wr.heap.size 41 5 (roV r (.slice A r.ne X))) := BxF.ro wr r _
    have WBH : Hid (Below wr.heap.size wr (wr.alloc (.cells #[.slice A r.ne X, .int .i64 r.bc, .int .i64 r.bt, .int .i64 r.bg, .int .i64 r.en] 41))) := WB
    clear WB
    have t0 : wr.cell? ⟨sb, 0, none⟩ = some (.slice pa s.n ca) := S1.out.cell 0 (by omega)
    have t1 : wr.cell? ⟨sb, 1, none⟩ = some (.int .i64 s.t) := S1.out.cell 1 (by omega)
    have t2 : wr.cell? ⟨sb, 2, none⟩ = some (.slice pb s.m cb) := S1.out.cell 2 (by omega)
    have t3 : wr.cell? ⟨sb, 3, none⟩ = some (.slice (some ⟨bq, offbq, none⟩) s.l cd) := S1.out.cell 3 (by omega)
    go_wp2
    clear t0 t1 t2 t3 bq_0 bq_1 bq_2 bq_3 bq_4
    replace S1 := Hid.out (S1)
    replace HV := Hid.out (HV)
    replace S1 : Hid (BxF (wr.alloc (.cells #[.slice A r.ne X, .int .i64 r.bc, .int .i64 r.bt, .int .i64 r.bg, .int .i64 r.en] 41)) sb 30 4 (fun i => if i = 0 then .slice pa s.n ca else if i = 1 then .int .i64 s.t else if i = 2 then .slice pb s.m cb else .slice (some ⟨bq, offbq, none⟩) s.l cd)) := S1.below WBH.out
    replace HV : Hid (SvV (wr.alloc (.cells #[.slice A r.ne X, .int .i64 r.bc, .int .i64 r.bt, .int .i64 r.bg, .int .i64 r.en] 41)) s ⟨pa, pb, some ⟨bq, offbq, none⟩, PA, PB, PD, PX, PY, PZ, ca, cb, cd⟩) := HV.below WBH.out
    clear WBH
    generalize (wr.alloc (.cells #[.slice A r.ne X, .int .i64 r.bc, .int .i64 r.bt, .int .i64 r.bg, .int .i64 r.en] 41)) = u0 at *
    obtain ⟨rb, hrb⟩ : ∃ x, x = wr.heap.size := ⟨_, rfl⟩
    rw [← hrb] at R1 ⊢
    clear hrb
    go_loopw [6] (fun i wz => ∃ k : Nat, k ≤ s.m ∧ i = .int .i64 k ∧ (¬ r.en = -1 → ∀ j, j < k → ¬ (Ack s r.bg j ∧ r.bc < (s.W j).mc)) ∧ Below u0.heap.size u0 wz) (fun i _ => s.m - (intOf i).toNat)
    case atStart => exact ⟨0, by omega, rfl, fun _ j hj => absurd hj (by omega), Below.refl _ _⟩
    case round =>
     obtain ⟨k, hk, rfl, hok, hb⟩ := hrel
     have HJ : Hid (¬ r.en = -1 → ∀ j, j < k → ¬ (Ack s r.bg j ∧ r.bc < (s.W j).mc)) := hok
     have HB2 : Hid (Below v1.heap.size v1 wr) := HB.out.trans (hb.mono HB.out.size)
     have HB3 : Hid (Below u0.heap.size u0 wr) := hb
     replace BB : Hid (Below w.heap.size w wr) := BB.out.trans (hb.mono BB.out.size)
     replace S1 : Hid (BxF wr sb 30 4 (fun i => if i = 0 then .slice pa s.n ca else if i = 1 then .int .i64 s.t else if i = 2 then .slice pb s.m cb else .slice (some ⟨bq, offbq, none⟩) s.l cd)) := S1.out.below hb
     replace HV : Hid (SvV wr s ⟨pa, pb, some ⟨bq, offbq, none⟩, PA, PB, PD, PX, PY, PZ, ca, cb, cd⟩) := HV.out.below hb
     replace R1 : Hid (BxF wr rb 41 5 (roV r (.slice A r.ne X))) := R1.out.below hb
     clear hok hb HB
     have t0 : wr.cell? ⟨sb, 0, none⟩ = some (.slice pa s.n ca) := S1.out.cell 0 (by omega)
     have t1 : wr.cell? ⟨sb, 1, none⟩ = some (.int .i64 s.t) := S1.out.cell 1 (by omega)
     have t2 : wr.cell? ⟨sb, 2, none⟩ = some (.slice pb s.m cb) := S1.out.cell 2 (by omega)
     have t3 : wr.cell? ⟨sb, 3, none⟩ = some (.slice (some ⟨bq, offbq, none⟩) s.l cd) := S1.out.cell 3 (by omega)
     have r0 : wr.cell? ⟨rb, 0, none⟩ = some (.slice A r.ne X) := R1.out.cell 0 (by omega)
     have r1 : wr.cell? ⟨rb, 1, none⟩ = some (.int .i64 r.bc) := R1.out.cell 1 (by omega)
     have r2 : wr.cell? ⟨rb, 2, none⟩ = some (.int .i64 r.bt) := R1.out.cell 2 (by omega)
     have r3 : wr.cell? ⟨rb, 3, none⟩ = some (.int .i64 r.bg) := R1.out.cell 3 (by omega)
     have r4 : wr.cell? ⟨rb, 4, none⟩ = some (.int .i64 r.en) := R1.out.cell 4 (by omega)
     by_cases hle : k < s.m
     ·have hle' : (k : Int) < (s.m : Int) := by omega
      by_cases pe : 0 ≤ r.en
      ·have PE : Hid (¬ r.en = -1) := fun y => by omega
       have EK := EW.out k hle
       obtain ⟨bw, offbw, rfl, hc⟩ := HV.out.2.1.at hle
       have ST : Hid (Ack s r.bg k ∧ r.bc < (s.W k).mc → z = false) := fun y => YES.out (DF.out.mpr ⟨PE.out, k, hle, y.1, y.2⟩)
       have GO : Hid (¬ (Ack s r.bg k ∧ r.bc < (s.W k).mc) → ∀ j, j < k + 1 → ¬ (Ack s r.bg j ∧ r.bc < (s.W j).mc)) := fun y j hj => by
        rcases Nat.lt_or_ge j k with g | g
        ·exact HJ.out PE.out j g
        ·obtain rfl : j = k := by omega
         exact y
       have AD : Hid (Ack s r.bg k ↔ ¬ (s.W k).en = -1 ∧ (s.W k).en < r.bg) := Iff.rfl
       generalize Ack s r.bg k = AK at *
       generalize hR : s.W k = v at *
       generalize hA : PB k = B at *
       generalize hX : PY k = Y at *
       have bw_0 : wr.cell? ⟨bw, offbw + k * 5, none⟩ = some (.int .i64 v.mc) := by have := hc 0 (by omega); simpa [woF, woV, roF, roV, hA, hX, hR] using this
       have bw_1 : wr.cell? ⟨bw, offbw + k * 5 + 1, none⟩ = some (.int .i64 v.mt) := by have := hc 1 (by omega); simpa [woF, woV, roF, roV, hA, hX, hR] using this
       have bw_2 : wr.cell? ⟨bw, offbw + k * 5 + 2, none⟩ = some (.slice B v.ne Y) := by have := hc 2 (by omega); simpa [woF, woV, roF, roV, hA, hX, hR] using this
       have bw_3 : wr.cell? ⟨bw, offbw + k * 5 + 3, none⟩ = some (.int .i64 v.bg) := by have := hc 3 (by omega); simpa [woF, woV, roF, roV, hA, hX, hR] using this
       have bw_4 : wr.cell? ⟨bw, offbw + k * 5 + 4, none⟩ = some (.int .i64 v.en) := by have := hc 4 (by omega); simpa [woF, woV, roF, roV, hA, hX, hR] using this
       clear hc hA hX hR HJ YES NO DF HV EW
       have WB : Below wr.heap.size wr (wr.alloc (.cells #[.int .i64 v.mc, .int .i64 v.mt, .slice B v.ne Y, .int .i64 v.bg, .int .i64 v.en] 43)) := (Below.refl _ _).alloc (Nat.le_refl _) _
       replace BB : Hid (Below w.heap.size w (wr.alloc (.cells #[.int .i64 v.mc, .int .i64 v.mt, .slice B v.ne Y, .int .i64 v.bg, .int .i64 v.en] 43))) := BB.out.trans (WB.mono BB.out.size)
       replace HB2 : Hid (Below v1.heap.size v1 (wr.alloc (.cells #[.int .i64 v.mc, .int .i64 v.mt, .slice B v.ne Y, .int .i64 v.bg, .int .i64 v.en] 43))) := HB2.out.trans (WB.mono HB2.out.size)
       replace HB3 : Hid (Below u0.heap.size u0 (wr.alloc (.cells #[.int .i64 v.mc, .int .i64 v.mt, .slice B v.ne Y, .int .i64 v.bg, .int .i64 v.en] 43))) := HB3.out.trans (WB.mono HB3.out.size)
       have s0 : (wr.alloc (.cells #[.int .i64 v.mc, .int .i64 v.mt, .slice B v.ne Y, .int .i64 v.bg, .int .i64 v.en] 43)).cell? ⟨rb, 0, none⟩ = some (.slice A r.ne X) := (R1.out.below WB).cell 0 (by omega)
       have s1 : (wr.alloc (.cells #[.int .i64 v.mc, .int .i64 v.mt, .slice B v.ne Y, .int .i64 v.bg, .int .i64 v.en] 43)).cell? ⟨rb, 1, none⟩ = some (.int .i64 r.bc) := (R1.out.below WB).cell 1 (by omega)
       have s2 : (wr.alloc (.cells #[.int .i64 v.mc, .int .i64 v.mt, .slice B v.ne Y, .int .i64 v.bg, .int .i64 v.en] 43)).cell? ⟨rb, 2, none⟩ = some (.int .i64 r.bt) := (R1.out.below WB).cell 2 (by omega)
       have s3 : (wr.alloc (.cells #[.int .i64 v.mc, .int .i64 v.mt, .slice B v.ne Y, .int .i64 v.bg, .int .i64 v.en] 43)).cell? ⟨rb, 3, none⟩ = some (.int .i64 r.bg) := (R1.out.below WB).cell 3 (by omega)
       have s4 : (wr.alloc (.cells #[.int .i64 v.mc, .int .i64 v.mt, .slice B v.ne Y, .int .i64 v.bg, .int .i64 v.en] 43)).cell? ⟨rb, 4, none⟩ = some (.int .i64 r.en) := (R1.out.below WB).cell 4 (by omega)
       clear WB S1 R1
       by_cases d1 : 0 ≤ v.en
       ·by_cases d2 : v.en < r.bg
        ·by_cases d3 : r.bc < v.mc
         ·replace ST : Hid (z = false) := ST.out ⟨AD.out.mpr ⟨by omega, d2⟩, d3⟩
          clear GO AD EK PE
          go_wp2
          go_ret2
          exact ⟨by rw [ST.out]; rfl, BB.out⟩
         ·replace GO := GO.out (fun y => d3 y.2)
          have GO' : Hid (∀ j, j < k + 1 → ¬ (Ack s r.bg j ∧ r.bc < (s.W j).mc)) := GO
          clear ST AD EK PE GO
          go_wp2
          go_roundw
          case rel => exact ⟨k + 1, by omega, by go_num, fun _ => GO'.out, HB3.out⟩
          case measure => simp [intOf]; omega
        ·replace GO := GO.out (fun y => d2 (AD.out.mp y.1).2)
         have GO' : Hid (∀ j, j < k + 1 → ¬ (Ack s r.bg j ∧ r.bc < (s.W j).mc)) := GO
         clear ST AD EK PE GO
         go_wp2
         go_roundw
         case rel => exact ⟨k + 1, by omega, by go_num, fun _ => GO'.out, HB3.out⟩
         case measure => simp [intOf]; omega
       ·replace GO := GO.out (fun y => by have := (AD.out.mp y.1).1; omega)
        have GO' : Hid (∀ j, j < k + 1 → ¬ (Ack s r.bg j ∧ r.bc < (s.W j).mc)) := GO
        clear ST AD EK PE GO
        go_wp2
        go_roundw
        case rel => exact ⟨k + 1, by omega, by go_num, fun _ => GO'.out, HB3.out⟩
        case measure => simp [intOf]; omega
      ·have N : Hid (∀ j, j < q + 1 → ¬ Stale s j) := NO.out (fun y => (DF.out.mp y).1 (by omega))
       clear NO YES DF HJ S1 HV R1 EQq EW
       go_wp2
       go_roundw
       case rel => exact ⟨q + 1, by omega, by go_num, N.out, HB2.out⟩
       case measure => simp [intOf]; omega
     ·have hle' : ¬ (k : Int) < (s.m : Int) := by omega
      have N : Hid (∀ j, j < q + 1 → ¬ Stale s j) := NO.out (fun y => by
       obtain ⟨y1, j, hj, y2, y3⟩ := DF.out.mp y
       exact HJ.out y1 j (by omega) ⟨y2, y3⟩)
      clear NO YES DF HJ S1 HV R1 EQq EW
      go_wp2
      go_roundw
      case rel => exact ⟨q + 1, by omega, by go_num, N.out, HB2.out⟩
      case measure => simp [intOf]; omega
   ·have hlt' : ¬ (q : Int) < (s.l : Int) := by omega
    replace HZ : Hid (z = true) := HZ.out.trans (sB_yes (fun ⟨i, hi, y⟩ => HK.out i (by omega) y))
    have t0 : wr.cell? ⟨sb, 0, none⟩ = some (.slice pa s.n ca) := S1.out.cell 0 (by omega)
    have t1 : wr.cell? ⟨sb, 1, none⟩ = some (.int .i64 s.t) := S1.out.cell 1 (by omega)
    have t2 : wr.cell? ⟨sb, 2, none⟩ = some (.slice pb s.m cb) := S1.out.cell 2 (by omega)
    have t3 : wr.cell? ⟨sb, 3, none⟩ = some (.slice pd s.l cd) := S1.out.cell 3 (by omega)
    clear HV HK HB EW EQ
    go_wp2
    go_ret2
    exact ⟨by rw [HZ.out]; rfl, BB.out⟩
end Go.Proofs.Ytdoacpnjggdojaa
