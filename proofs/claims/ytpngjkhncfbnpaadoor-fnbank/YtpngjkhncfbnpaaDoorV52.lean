/-
  Texts of the proof, joined: LawFnBank.
-/
import Derived.Test.YtpngjkhncfbnpaaDoorV31
import Derived.Test.YtpngjkhncfbnpaaDoorV48
import Derived.Test.YtpngjkhncfbnpaaDoorV49
import Derived.Test.YtpngjkhncfbnpaaDoorV50
import Derived.Test.YtpngjkhncfbnpaaDoorV51
namespace Go.Proofs.YtpngjkhncfbnpaaDoor
open Go.ChangeShapes Go.WideShapes Go.ChangeAt Go.RowKit
set_option linter.unusedVariables false
set_option maxRecDepth 100000 in
set_option maxHeartbeats 1000000 in
theorem sameIntsB (a b : Option Addr) (n c d : Nat) (f : Nat → Int) (w : World) (h : Els w 1 a n (inF f)) (h' : Els w 1 b n (inF f)) (hn : n ≤ 1000) :
    Calls Tryd.prog 22 #[.slice a n c, .slice b n d] w fun e w' => e = .returned (.bool true) ∧ Below w.heap.size w w' := by
  have HA : Hid (Els w 1 a n (inF f)) := h
  have HB : Hid (Els w 1 b n (inF f)) := h'
  have hne : ((n : Int) != (n : Int)) = false := by simp
  clear h h'
  go_enter Tryd.func22, Tryd.ntmps22
  go_wp2
  go_loopw [5] (fun i wr => ∃ k : Nat, k ≤ n ∧ i = .int .i64 k ∧ Below w.heap.size w wr) (fun i _ => n - (intOf i).toNat)
  case atStart => exact ⟨0, by omega, rfl, Below.refl _ _⟩
  case round =>
    obtain ⟨k, hk, rfl, hb⟩ := hrel
    have HW : Hid (Below w.heap.size w wr) := hb
    by_cases hlt : k < n
    · obtain ⟨b1, o1, rfl, hc⟩ := (HA.out.below hb).opened (by omega)
      obtain ⟨b2, o2, rfl, hc'⟩ := (HB.out.below hb).opened (by omega)
      have c1 : wr.cell? ⟨b1, o1 + k, none⟩ = some (.int .i64 (f k)) := by have := hc k hlt 0 (by omega); rwa [Nat.mul_one, Nat.add_zero] at this
      have c2 : wr.cell? ⟨b2, o2 + k, none⟩ = some (.int .i64 (f k)) := by have := hc' k hlt 0 (by omega); rwa [Nat.mul_one, Nat.add_zero] at this
      have hlt' : (k : Int) < (n : Int) := by omega
      generalize f k = V at *
      clear hc hc' hb
      go_wp2
      go_quiet (fail)
      clear c1 c2
      go_wp2
      go_roundw
      case rel => exact ⟨k + 1, by omega, by go_num, below_drewNS HW.out⟩
      case measure => simp [intOf]; omega
    · clear hb
      go_wp2
      go_ret
      exact ⟨rfl, HW.out⟩
theorem noSl_rq (R : Nat → Rqst) : NoSl (rqF R) := fun i j a n c => by
  unfold rqF rqV
  split <;> exact fun e => by cases e
theorem noSl_in (C : Nat → Int) : NoSl (inF C) := fun i j a n c => by
  unfold inF
  exact fun e => by cases e
theorem neqRg2 (x y : Rg) (h : y.c = x.c + 1) (w : World) : (binOp .neq 54 (.agg #[.int .i64 y.v, .int .i64 y.c, .string y.r]) (.agg #[.int .i64 x.v, .int .i64 x.c, .string x.r])).run Tryd.prog w = .ok (.bool true) w := by
  go_simp
  intro _ h2
  omega
theorem BankE.bankV {w : World} {B : Nat} {d : Bk} {a0 a1 : Option Addr} {c0 c1 : Nat} (h : BankE w B d.nr d.ns d (.slice a0 d.nr c0) (.slice a1 d.ns c1)) : BankV w d a0 a1 := ⟨h.e0.els, h.e1.els⟩
structure BkSt (w wr : World) (px p4 : Nat) (pa : Option Addr) (m : Nat) (QQ : Nat → Rqst) (ac a0 a1 : Option Addr) (c0 c1 k : Nat) : Prop where
  now : ∃ x0 y0 x1 y1, (Box2 wr px 46 (.slice x0 (runK QQ k).nr y0) (.slice x1 (runK QQ k).ns y1)) ∧ BankV wr (runK QQ k) x0 x1 ∧ (x0 = none → y0 = 0) ∧ (x1 = none → y1 = 0)
  lq : Els wr 5 pa m (rqF QQ)
  nc : Els wr 1 ac m (inF (told QQ))
  x4 : Box2 wr p4 46 (.slice a0 (runK QQ m).nr c0) (.slice a1 (runK QQ m).ns c1)
  v4 : BankV wr (runK QQ m) a0 a1
  below : Below w.heap.size w wr
set_option maxRecDepth 100000 in
set_option maxHeartbeats 8000000 in
theorem law_fnBank (a : Option Addr) (len cap : Nat) (zs : List Int) (w : World) (h : IsRow .u8 w a len cap zs) (hm : len ≤ maxLen) (hT : TabW w) :
    Calls Tryd.prog 4 #[.slice a len cap] w fun e w' => e = .returned (.bool true) ∧ Below w.heap.size w w' := by
  by_cases hl : 1048576 < len
  · have hl' : (1048576 : Int) < (len : Int) := by omega
    clear h hT
    unfold maxLen at hm
    go_enter Tryd.func4, Tryd.ntmps4
    go_wp2
    go_ret
    exact ⟨rfl, Below.refl _ _⟩
  have hl' : ¬ (1048576 : Int) < (len : Int) := by omega
  obtain ⟨z, hz, hc⟩ := code8_of_row h
  have RQ : Hid (Calls Tryd.prog 18 #[.slice a len cap] w fun e w' => RetRqs w.heap.size e w' ∧ Below w.heap.size w w') := requestsOf_t a len cap z hz hm w hc
  have TW : Hid (TabW w) := hT
  clear h hc hT hl hm hz
  go_enter Tryd.func4, Tryd.ntmps4
  go_wp2_with fail
  refine RQ.out.mono ?_
  rintro e w1 ⟨⟨m, QQ, pa, pc, hm, hok, rfl, ho⟩, hb⟩
  have A1 : Hid (Below w.heap.size w w1) := hb
  have LQ : Hid (Els w1 5 pa m (rqF QQ)) := ho.els
  have HM : Hid (m ≤ 22 ∧ RqsOk m QQ) := ⟨hm, hok⟩
  have hD : RunD QQ m (runK QQ m) m (told QQ) 0 := .inr (.inr (.inr ⟨by omega, hok, rfl, rfl, rfl, rfl⟩))
  have BI : Hid (∀ w : World, Els w 5 pa m (rqF QQ) → Calls Tryd.prog 19 #[.slice pa m pc] w fun e w' => RunA (runK QQ m) m (told QQ) 0 w.heap.size e w' ∧ Below w.heap.size w w') := fun w h => implRunB_any pa m pc QQ _ _ _ _ hD (by unfold maxLen; omega) w h
  have BS : Hid (∀ w : World, Els w 5 pa m (rqF QQ) → Calls Tryd.prog 20 #[.slice pa m pc] w fun e w' => RunA (runK QQ m) m (told QQ) 0 w.heap.size e w' ∧ Below w.heap.size w w') := fun w h => specRunB_any pa m pc QQ _ _ _ _ hD (by unfold maxLen; omega) w h
  have HDM : Hid (runK QQ m).Ok := runK_ok QQ m hok
  obtain ⟨DM, hDM⟩ : ∃ D, D = runK QQ m := ⟨_, rfl⟩
  have EDM : Hid (DM = runK QQ m) := hDM
  rw [← hDM] at BI BS HDM
  clear hb ho hok hm RQ hD hDM
  go_wp2_with fail
  refine (BI.out _ LQ.out).mono ?_
  rintro e w2 ⟨⟨a0, c0, a1, c1, ac, cc, rfl, hBE, hIE⟩, hb⟩
  have hbx : Below w2.heap.size w2 (w2.alloc (.cells #[.slice a0 DM.nr c0, .slice a1 DM.ns c1] 46)) := (Below.refl _ _).alloc (Nat.le_refl _) _
  have X4 : Hid (Box2 (w2.alloc (.cells #[.slice a0 DM.nr c0, .slice a1 DM.ns c1] 46)) w2.heap.size 46 (.slice a0 DM.nr c0) (.slice a1 DM.ns c1)) := Box2.madeAt rfl _ _ _
  have V4 : Hid (BankV (w2.alloc (.cells #[.slice a0 DM.nr c0, .slice a1 DM.ns c1] 46)) DM a0 a1) := hBE.bankV.below hbx
  have NC : Hid (Els (w2.alloc (.cells #[.slice a0 DM.nr c0, .slice a1 DM.ns c1] 46)) 1 ac m (inF (told QQ))) := (EO.els hIE).below hbx
  replace LQ : Hid (Els (w2.alloc (.cells #[.slice a0 DM.nr c0, .slice a1 DM.ns c1] 46)) 5 pa m (rqF QQ)) := (LQ.out.below hb).below hbx
  replace A1 : Hid (Below w.heap.size w (w2.alloc (.cells #[.slice a0 DM.nr c0, .slice a1 DM.ns c1] 46))) := (A1.out.trans (hb.mono A1.out.size)).trans (hbx.mono (A1.out.trans (hb.mono A1.out.size)).size)
  clear hBE hIE hb hbx BI
  go_wp2_with fail
  generalize (w2.alloc (.cells #[.slice a0 DM.nr c0, .slice a1 DM.ns c1] 46)) = v3 at *
  obtain ⟨p4, hp4⟩ : ∃ x, x = w2.heap.size := ⟨_, rfl⟩
  rw [← hp4] at X4 ⊢
  clear hp4
  refine (BS.out _ LQ.out).mono ?_
  rintro e w4 ⟨⟨e0, k0, e1, k1, wc, wx, rfl, hBE, hIE⟩, hb⟩
  have hbx : Below w4.heap.size w4 (w4.alloc (.cells #[.slice e0 DM.nr k0, .slice e1 DM.ns k1] 46)) := (Below.refl _ _).alloc (Nat.le_refl _) _
  have X7 : Hid (Box2 (w4.alloc (.cells #[.slice e0 DM.nr k0, .slice e1 DM.ns k1] 46)) w4.heap.size 46 (.slice e0 DM.nr k0) (.slice e1 DM.ns k1)) := Box2.madeAt rfl _ _ _
  have V7 : Hid (BankV (w4.alloc (.cells #[.slice e0 DM.nr k0, .slice e1 DM.ns k1] 46)) DM e0 e1) := hBE.bankV.below hbx
  have NW : Hid (Els (w4.alloc (.cells #[.slice e0 DM.nr k0, .slice e1 DM.ns k1] 46)) 1 wc m (inF (told QQ))) := (EO.els hIE).below hbx
  replace LQ : Hid (Els (w4.alloc (.cells #[.slice e0 DM.nr k0, .slice e1 DM.ns k1] 46)) 5 pa m (rqF QQ)) := (LQ.out.below hb).below hbx
  replace X4 : Hid (Box2 (w4.alloc (.cells #[.slice e0 DM.nr k0, .slice e1 DM.ns k1] 46)) p4 46 (.slice a0 DM.nr c0) (.slice a1 DM.ns c1)) := (X4.out.below hb).below hbx
  replace V4 : Hid (BankV (w4.alloc (.cells #[.slice e0 DM.nr k0, .slice e1 DM.ns k1] 46)) DM a0 a1) := (V4.out.below hb).below hbx
  replace NC : Hid (Els (w4.alloc (.cells #[.slice e0 DM.nr k0, .slice e1 DM.ns k1] 46)) 1 ac m (inF (told QQ))) := (NC.out.below hb).below hbx
  replace A1 : Hid (Below w.heap.size w (w4.alloc (.cells #[.slice e0 DM.nr k0, .slice e1 DM.ns k1] 46))) := (A1.out.trans (hb.mono A1.out.size)).trans (hbx.mono (A1.out.trans (hb.mono A1.out.size)).size)
  clear hBE hIE hb hbx BS
  have x40 := X4.out.c0
  have x41 := X4.out.c1
  have x70 := X7.out.c0
  have x71 := X7.out.c1
  go_wp2_with fail
  clear x40 x41 x70 x71
  generalize (w4.alloc (.cells #[.slice e0 DM.nr k0, .slice e1 DM.ns k1] 46)) = v5 at *
  obtain ⟨p7, hp7⟩ : ∃ x, x = w4.heap.size := ⟨_, rfl⟩
  rw [← hp7] at X7 ⊢
  clear hp7
  refine (sameBank_yes DM a0 a1 e0 e1 c0 c1 k0 k1 (by have := HDM.out.1.1; omega) (by have := HDM.out.2.1; omega) v5 V4.out V7.out).mono ?_
  rintro e v6 ⟨rfl, hb⟩
  replace LQ : Hid (Els v6 5 pa m (rqF QQ)) := LQ.out.below hb
  replace X4 : Hid (Box2 v6 p4 46 (.slice a0 DM.nr c0) (.slice a1 DM.ns c1)) := X4.out.below hb
  replace V4 : Hid (BankV v6 DM a0 a1) := V4.out.below hb
  replace NC : Hid (Els v6 1 ac m (inF (told QQ))) := NC.out.below hb
  replace A1 : Hid (Below w.heap.size w v6) := A1.out.trans (hb.mono A1.out.size)
  replace NW : Hid (Els v6 1 wc m (inF (told QQ))) := NW.out.below hb
  clear hb X7 V7
  go_wp2_with fail
  refine (sameIntsB ac wc m cc wx (told QQ) v6 NC.out NW.out (by have := HM.out.1; omega)).mono ?_
  rintro e v7 ⟨rfl, hb⟩
  replace LQ : Hid (Els v7 5 pa m (rqF QQ)) := LQ.out.below hb
  replace X4 : Hid (Box2 v7 p4 46 (.slice a0 DM.nr c0) (.slice a1 DM.ns c1)) := X4.out.below hb
  replace V4 : Hid (BankV v7 DM a0 a1) := V4.out.below hb
  replace NC : Hid (Els v7 1 ac m (inF (told QQ))) := NC.out.below hb
  replace A1 : Hid (Below w.heap.size w v7) := A1.out.trans (hb.mono A1.out.size)
  clear hb NW
  have x40 := X4.out.c0
  have x41 := X4.out.c1
  go_wp2_with fail
  clear x40 x41
  have BK := implBankOK_any DM a0 a1 c0 c1 v7 V4.out (TW.out.below A1.out)
  rw [okB_yes HDM.out] at BK
  refine BK.mono ?_
  clear BK
  rintro e v8 ⟨rfl, hb⟩
  replace LQ : Hid (Els v8 5 pa m (rqF QQ)) := LQ.out.below hb
  replace X4 : Hid (Box2 v8 p4 46 (.slice a0 DM.nr c0) (.slice a1 DM.ns c1)) := X4.out.below hb
  replace V4 : Hid (BankV v8 DM a0 a1) := V4.out.below hb
  replace NC : Hid (Els v8 1 ac m (inF (told QQ))) := NC.out.below hb
  replace A1 : Hid (Below w.heap.size w v8) := A1.out.trans (hb.mono A1.out.size)
  clear hb
  have hb : Below v8.heap.size v8 (v8.alloc (.cells #[.slice none 0 0, .slice none 0 0] 46)) := (Below.refl _ _).alloc (Nat.le_refl _) _
  have XX : Hid (Box2 (v8.alloc (.cells #[.slice none 0 0, .slice none 0 0] 46)) v8.heap.size 46 (.slice none 0 0) (.slice none 0 0)) := Box2.madeAt rfl _ _ _
  have HPX : Hid (w.heap.size ≤ v8.heap.size ∧ p4 < v8.heap.size) := ⟨A1.out.size, X4.out.lt⟩
  replace LQ : Hid (Els (v8.alloc (.cells #[.slice none 0 0, .slice none 0 0] 46)) 5 pa m (rqF QQ)) := LQ.out.below hb
  replace X4 : Hid (Box2 (v8.alloc (.cells #[.slice none 0 0, .slice none 0 0] 46)) p4 46 (.slice a0 DM.nr c0) (.slice a1 DM.ns c1)) := X4.out.below hb
  replace V4 : Hid (BankV (v8.alloc (.cells #[.slice none 0 0, .slice none 0 0] 46)) DM a0 a1) := V4.out.below hb
  replace NC : Hid (Els (v8.alloc (.cells #[.slice none 0 0, .slice none 0 0] 46)) 1 ac m (inF (told QQ))) := NC.out.below hb
  replace A1 : Hid (Below w.heap.size w (v8.alloc (.cells #[.slice none 0 0, .slice none 0 0] 46))) := A1.out.trans (hb.mono A1.out.size)
  clear hb
  go_wp2
  generalize (v8.alloc (.cells #[.slice none 0 0, .slice none 0 0] 46)) = v9 at *
  obtain ⟨px, hpx⟩ : ∃ x, x = v8.heap.size := ⟨_, rfl⟩
  rw [← hpx] at XX HPX ⊢
  clear hpx
  go_loopw [11] (fun i wr => ∃ k : Nat, k ≤ m ∧ i = .int .i64 k ∧ BkSt w wr px p4 pa m QQ ac a0 a1 c0 c1 k) (fun i _ => m - (intOf i).toNat)
  case atStart => exact ⟨0, by omega, rfl, ⟨⟨none, 0, none, 0, XX.out, ⟨fun i hi => absurd hi (Nat.not_lt_zero i), fun i hi => absurd hi (Nat.not_lt_zero i)⟩, fun _ => rfl, fun _ => rfl⟩, LQ.out, NC.out, by rw [← EDM.out]; exact X4.out, by rw [← EDM.out]; exact V4.out, A1.out⟩⟩
  case round =>
    clear XX LQ NC X4 V4 A1
    obtain ⟨k, hk, rfl, hst⟩ := hrel
    have A1 : Hid (Below w.heap.size w wr) := hst.below
    have LQ : Hid (Els wr 5 pa m (rqF QQ)) := hst.lq
    have NC : Hid (Els wr 1 ac m (inF (told QQ))) := hst.nc
    have X4 : Hid (Box2 wr p4 46 (.slice a0 DM.nr c0) (.slice a1 DM.ns c1)) := by rw [EDM.out]; exact hst.x4
    have V4 : Hid (BankV wr DM a0 a1) := by rw [EDM.out]; exact hst.v4
    obtain ⟨x0, y0, x1, y1, hxx, hvx, zx0, zx1⟩ := hst.now
    by_cases hlt : k < m
    · have hlt' : (k : Int) < (m : Int) := by omega
      have HLT : Hid (k < m) := hlt
      have hk0 : (runK QQ k).Ok := runK_ok QQ k (fun i hi => HM.out.2 i (by omega))
      have hk1 : (runK QQ (k + 1)).Ok := runK_ok QQ (k + 1) (fun i hi => HM.out.2 i (by omega))
      have hav := runK_is QQ k (fun i hi => HM.out.2 i (by omega))
      have hxk := HM.out.2 k hlt
      obtain ⟨lb, lo, rfl, hlc⟩ := LQ.out.opened (by omega)
      obtain ⟨l0, l1, l2, l3, l4⟩ := Els.rqC hlc k hlt
      obtain ⟨cb, co, rfl, hcc⟩ := NC.out.opened (by omega)
      obtain ⟨t, ht⟩ : ∃ t, t = told QQ k := ⟨_, rfl⟩
      have HCC : Hid (∀ u : World, Below wr.heap.size wr u → u.cell? ⟨cb, co + k, none⟩ = some (.int .i64 t)) := fun u hb => by
        have h1 := hcc k hlt 0 (by omega)
        rw [Nat.mul_one, Nat.add_zero] at h1
        rw [hb.cell (strBlock h1), h1, ht]
        rfl
      obtain ⟨u, hu⟩ : ∃ u, u = mark QQ k := ⟨_, rfl⟩
      obtain ⟨D0, hD0⟩ : ∃ D, D = runK QQ k := ⟨_, rfl⟩
      obtain ⟨D1, hD1⟩ : ∃ D, D = runK QQ (k + 1) := ⟨_, rfl⟩
      rw [← hD0] at hk0 hav hxx hvx
      rw [← hD1] at hk1 hav
      rw [← ht, ← hu] at hav
      have ED1 : Hid (D1 = runK QQ (k + 1)) := hD1
      generalize QQ k = x at *
      obtain ⟨rw0, hrw⟩ := regIs_some D0 x.v
      obtain ⟨rn0, hrn⟩ := regIs_some D1 x.v
      obtain ⟨cd0, hrd0⟩ := hrw.rd hk0
      obtain ⟨cd1, hrd1⟩ := hrn.rd hk1
      obtain ⟨D2, tw, st, hav2⟩ := advIs_some hk1 (toRq x)
      have HAG : Hid (t ≠ 6 → D1 = D2 ∧ t = tw ∧ u = st) := fun h6 => by
        obtain ⟨a1, a2, a3⟩ := hav.again hk0 hxk hav2 h6
        exact ⟨a1.symm, a2.symm, a3.symm⟩
      have HRG : Hid (rn0 = rw0 ∨ (rn0.c = rw0.c + 1 ∧ rn0.r = x.r ∧ t = 0)) := hav.reg hk0 hxk hrw hrn
      have HRR : Hid (0 ≤ rw0.c ∧ rw0.c ≤ 1000000) := hrw.range hk0
      have HK1 : Hid D1.Ok := hk1
      have HK2 : Hid D2.Ok := hav2.kept hk1 hxk
      have RD0 : Hid (∀ w : World, BankV w D0 x0 x1 → TabW w → Calls Tryd.prog 24 #[.agg #[.slice x0 D0.nr y0, .slice x1 D0.ns y1], .int .i64 x.v] w fun e w' => e = .returned (.tuple #[.agg #[.int .i64 rw0.v, .int .i64 rw0.c, .string rw0.r], .int .i64 cd0]) ∧ Below w.heap.size w w') := fun w h hT => implRead_is D0 x.v rw0 cd0 hrd0 x0 x1 y0 y1 w h hT
      have RD1 : Hid (∀ (b0 b1 : Option Addr) (z0 z1 : Nat) (w : World), BankV w D1 b0 b1 → TabW w → Calls Tryd.prog 24 #[.agg #[.slice b0 D1.nr z0, .slice b1 D1.ns z1], .int .i64 x.v] w fun e w' => e = .returned (.tuple #[.agg #[.int .i64 rn0.v, .int .i64 rn0.c, .string rn0.r], .int .i64 cd1]) ∧ Below w.heap.size w w') := fun b0 b1 z0 z1 w h hT => implRead_is D1 x.v rn0 cd1 hrd1 b0 b1 z0 z1 w h hT
      have AD0 : Hid (∀ w : World, BankV w D0 x0 x1 → TabW w → Calls Tryd.prog 25 #[.agg #[.slice x0 D0.nr y0, .slice x1 D0.ns y1], .agg #[.int .i64 x.s, .int .i64 x.q, .int .i64 x.v, .int .i64 x.c, .string x.r]] w fun e w' => RetA D1 t u 0 w.heap.size e w' ∧ Below w.heap.size w w') := fun w h hT => implAdv_any D0 D1 (toRq x) t u 0 (.inr ⟨hk0, hxk, hav, rfl⟩) x0 x1 y0 y1 zx0 zx1 w h hT
      have AD1 : Hid (∀ (b0 b1 : Option Addr) (z0 z1 : Nat) (w : World), (b0 = none → z0 = 0) → (b1 = none → z1 = 0) → BankV w D1 b0 b1 → TabW w → Calls Tryd.prog 25 #[.agg #[.slice b0 D1.nr z0, .slice b1 D1.ns z1], .agg #[.int .i64 x.s, .int .i64 x.q, .int .i64 x.v, .int .i64 x.c, .string x.r]] w fun e w' => RetA D2 tw st 0 w.heap.size e w' ∧ Below w.heap.size w w') := fun b0 b1 z0 z1 w e0 e1 h hT => implAdv_any D1 D2 (toRq x) tw st 0 (.inr ⟨hk1, hxk, hav2, rfl⟩) b0 b1 z0 z1 e0 e1 w h hT
      have XX : Hid (Box2 wr px 46 (.slice x0 D0.nr y0) (.slice x1 D0.ns y1)) := hxx
      have VX : Hid (BankV wr D0 x0 x1) := hvx
      have K0 : Hid (Below wr.heap.size wr wr) := Below.refl _ _
      clear hst hxx hvx zx0 zx1 hk0 hk1 hav hxk hlc hcc ht hu hD0 hD1 hrw hrn hrd0 hrd1 hav2 hk hlt
      have hb : Below wr.heap.size wr (wr.alloc (.cells #[.int .i64 x.s, .int .i64 x.q, .int .i64 x.v, .int .i64 x.c, .string x.r] 52)) := (Below.refl _ _).alloc (Nat.le_refl _) _
      have XR : Hid (RqB (wr.alloc (.cells #[.int .i64 x.s, .int .i64 x.q, .int .i64 x.v, .int .i64 x.c, .string x.r] 52)) wr.heap.size x) := RqB.madeOf rfl
      replace LQ : Hid (Els (wr.alloc (.cells #[.int .i64 x.s, .int .i64 x.q, .int .i64 x.v, .int .i64 x.c, .string x.r] 52)) 5 (some ⟨lb, lo, none⟩) m (rqF QQ)) := LQ.out.below hb
      replace X4 : Hid (Box2 (wr.alloc (.cells #[.int .i64 x.s, .int .i64 x.q, .int .i64 x.v, .int .i64 x.c, .string x.r] 52)) p4 46 (.slice a0 DM.nr c0) (.slice a1 DM.ns c1)) := X4.out.below hb
      replace V4 : Hid (BankV (wr.alloc (.cells #[.int .i64 x.s, .int .i64 x.q, .int .i64 x.v, .int .i64 x.c, .string x.r] 52)) DM a0 a1) := V4.out.below hb
      replace NC : Hid (Els (wr.alloc (.cells #[.int .i64 x.s, .int .i64 x.q, .int .i64 x.v, .int .i64 x.c, .string x.r] 52)) 1 (some ⟨cb, co, none⟩) m (inF (told QQ))) := NC.out.below hb
      replace XX : Hid (Box2 (wr.alloc (.cells #[.int .i64 x.s, .int .i64 x.q, .int .i64 x.v, .int .i64 x.c, .string x.r] 52)) px 46 (.slice x0 D0.nr y0) (.slice x1 D0.ns y1)) := XX.out.below hb
      replace VX : Hid (BankV (wr.alloc (.cells #[.int .i64 x.s, .int .i64 x.q, .int .i64 x.v, .int .i64 x.c, .string x.r] 52)) D0 x0 x1) := VX.out.below hb
      replace A1 : Hid (Below w.heap.size w (wr.alloc (.cells #[.int .i64 x.s, .int .i64 x.q, .int .i64 x.v, .int .i64 x.c, .string x.r] 52))) := A1.out.trans (hb.mono A1.out.size)
      replace K0 : Hid (Below wr.heap.size wr (wr.alloc (.cells #[.int .i64 x.s, .int .i64 x.q, .int .i64 x.v, .int .i64 x.c, .string x.r] 52))) := K0.out.trans (hb.mono K0.out.size)
      have xx0 := XX.out.c0
      have xx1 := XX.out.c1
      clear hb
      go_wp2_with fail
      clear xx0 xx1 l0 l1 l2 l3 l4
      generalize (wr.alloc (.cells #[.int .i64 x.s, .int .i64 x.q, .int .i64 x.v, .int .i64 x.c, .string x.r] 52)) = g1 at *
      obtain ⟨pr, hpr⟩ : ∃ x, x = wr.heap.size := ⟨_, rfl⟩
      have HPR : Hid (pr = wr.heap.size) := hpr
      rw [← hpr] at XR ⊢
      clear hpr
      refine (RD0.out _ VX.out (TW.out.below A1.out)).mono ?_
      rintro e g2 ⟨rfl, hb⟩
      have hbx : Below g2.heap.size g2 (g2.alloc (.cells #[.int .i64 rw0.v, .int .i64 rw0.c, .string rw0.r] 54)) := (Below.refl _ _).alloc (Nat.le_refl _) _
      have XW : Hid (Box3 (g2.alloc (.cells #[.int .i64 rw0.v, .int .i64 rw0.c, .string rw0.r] 54)) g2.heap.size 54 (.int .i64 rw0.v) (.int .i64 rw0.c) (.string rw0.r)) := Box3.madeAt rfl _ _ _ _
      replace LQ : Hid (Els (g2.alloc (.cells #[.int .i64 rw0.v, .int .i64 rw0.c, .string rw0.r] 54)) 5 (some ⟨lb, lo, none⟩) m (rqF QQ)) := (LQ.out.below hb).below hbx
      replace X4 : Hid (Box2 (g2.alloc (.cells #[.int .i64 rw0.v, .int .i64 rw0.c, .string rw0.r] 54)) p4 46 (.slice a0 DM.nr c0) (.slice a1 DM.ns c1)) := (X4.out.below hb).below hbx
      replace V4 : Hid (BankV (g2.alloc (.cells #[.int .i64 rw0.v, .int .i64 rw0.c, .string rw0.r] 54)) DM a0 a1) := (V4.out.below hb).below hbx
      replace NC : Hid (Els (g2.alloc (.cells #[.int .i64 rw0.v, .int .i64 rw0.c, .string rw0.r] 54)) 1 (some ⟨cb, co, none⟩) m (inF (told QQ))) := (NC.out.below hb).below hbx
      replace XX : Hid (Box2 (g2.alloc (.cells #[.int .i64 rw0.v, .int .i64 rw0.c, .string rw0.r] 54)) px 46 (.slice x0 D0.nr y0) (.slice x1 D0.ns y1)) := (XX.out.below hb).below hbx
      replace VX : Hid (BankV (g2.alloc (.cells #[.int .i64 rw0.v, .int .i64 rw0.c, .string rw0.r] 54)) D0 x0 x1) := (VX.out.below hb).below hbx
      replace XR : Hid (RqB (g2.alloc (.cells #[.int .i64 rw0.v, .int .i64 rw0.c, .string rw0.r] 54)) pr x) := (XR.out.below hb).below hbx
      replace A1 : Hid (Below w.heap.size w (g2.alloc (.cells #[.int .i64 rw0.v, .int .i64 rw0.c, .string rw0.r] 54))) := (A1.out.trans (hb.mono A1.out.size)).trans (hbx.mono (A1.out.trans (hb.mono A1.out.size)).size)
      replace K0 : Hid (Below wr.heap.size wr (g2.alloc (.cells #[.int .i64 rw0.v, .int .i64 rw0.c, .string rw0.r] 54))) := (K0.out.trans (hb.mono K0.out.size)).trans (hbx.mono (K0.out.trans (hb.mono K0.out.size)).size)
      obtain ⟨q0, q1, q2, q3, q4⟩ := XR.out.c
      have xx0 := XX.out.c0
      have xx1 := XX.out.c1
      clear hb hbx RD0
      go_wp2_with fail
      clear xx0 xx1 q0 q1 q2 q3 q4
      generalize (g2.alloc (.cells #[.int .i64 rw0.v, .int .i64 rw0.c, .string rw0.r] 54)) = g3 at *
      obtain ⟨pw, hpw⟩ : ∃ x, x = g2.heap.size := ⟨_, rfl⟩
      rw [← hpw] at XW ⊢
      clear hpw
      refine (AD0.out _ VX.out (TW.out.below A1.out)).mono ?_
      rintro e g4 ⟨⟨b0, z0, b1, z1, rfl, hbe⟩, hb⟩
      have Z01 : Hid ((b0 = none → z0 = 0) ∧ (b1 = none → z1 = 0)) := ⟨hbe.e0.zero, hbe.e1.zero⟩
      have hbx : Below g4.heap.size g4 (g4.alloc (.cells #[.slice b0 D1.nr z0, .slice b1 D1.ns z1] 46)) := (Below.refl _ _).alloc (Nat.le_refl _) _
      have XY : Hid (Box2 (g4.alloc (.cells #[.slice b0 D1.nr z0, .slice b1 D1.ns z1] 46)) g4.heap.size 46 (.slice b0 D1.nr z0) (.slice b1 D1.ns z1)) := Box2.madeAt rfl _ _ _
      have VY : Hid (BankV (g4.alloc (.cells #[.slice b0 D1.nr z0, .slice b1 D1.ns z1] 46)) D1 b0 b1) := hbe.bankV.below hbx
      replace LQ : Hid (Els (g4.alloc (.cells #[.slice b0 D1.nr z0, .slice b1 D1.ns z1] 46)) 5 (some ⟨lb, lo, none⟩) m (rqF QQ)) := (LQ.out.below hb).below hbx
      replace X4 : Hid (Box2 (g4.alloc (.cells #[.slice b0 D1.nr z0, .slice b1 D1.ns z1] 46)) p4 46 (.slice a0 DM.nr c0) (.slice a1 DM.ns c1)) := (X4.out.below hb).below hbx
      replace V4 : Hid (BankV (g4.alloc (.cells #[.slice b0 D1.nr z0, .slice b1 D1.ns z1] 46)) DM a0 a1) := (V4.out.below hb).below hbx
      replace NC : Hid (Els (g4.alloc (.cells #[.slice b0 D1.nr z0, .slice b1 D1.ns z1] 46)) 1 (some ⟨cb, co, none⟩) m (inF (told QQ))) := (NC.out.below hb).below hbx
      replace XX : Hid (Box2 (g4.alloc (.cells #[.slice b0 D1.nr z0, .slice b1 D1.ns z1] 46)) px 46 (.slice x0 D0.nr y0) (.slice x1 D0.ns y1)) := (XX.out.below hb).below hbx
      replace VX : Hid (BankV (g4.alloc (.cells #[.slice b0 D1.nr z0, .slice b1 D1.ns z1] 46)) D0 x0 x1) := (VX.out.below hb).below hbx
      replace XR : Hid (RqB (g4.alloc (.cells #[.slice b0 D1.nr z0, .slice b1 D1.ns z1] 46)) pr x) := (XR.out.below hb).below hbx
      replace XW : Hid (Box3 (g4.alloc (.cells #[.slice b0 D1.nr z0, .slice b1 D1.ns z1] 46)) pw 54 (.int .i64 rw0.v) (.int .i64 rw0.c) (.string rw0.r)) := (XW.out.below hb).below hbx
      replace A1 : Hid (Below w.heap.size w (g4.alloc (.cells #[.slice b0 D1.nr z0, .slice b1 D1.ns z1] 46))) := (A1.out.trans (hb.mono A1.out.size)).trans (hbx.mono (A1.out.trans (hb.mono A1.out.size)).size)
      replace K0 : Hid (Below wr.heap.size wr (g4.alloc (.cells #[.slice b0 D1.nr z0, .slice b1 D1.ns z1] 46))) := (K0.out.trans (hb.mono K0.out.size)).trans (hbx.mono (K0.out.trans (hb.mono K0.out.size)).size)
      obtain ⟨q0, q1, q2, q3, q4⟩ := XR.out.c
      clear hb hbx hbe AD0
      go_wp2_with fail
      clear q0 q1 q2 q3 q4
      generalize (g4.alloc (.cells #[.slice b0 D1.nr z0, .slice b1 D1.ns z1] 46)) = g5 at *
      obtain ⟨py, hpy⟩ : ∃ x, x = g4.heap.size := ⟨_, rfl⟩
      rw [← hpy] at XY ⊢
      clear hpy
      refine (AD1.out _ _ _ _ _ Z01.out.1 Z01.out.2 VY.out (TW.out.below A1.out)).mono ?_
      rintro e g6 ⟨⟨f0, s0, f1, s1, rfl, hbe⟩, hb⟩
      have hbx : Below g6.heap.size g6 (g6.alloc (.cells #[.slice f0 D2.nr s0, .slice f1 D2.ns s1] 46)) := (Below.refl _ _).alloc (Nat.le_refl _) _
      have XA : Hid (Box2 (g6.alloc (.cells #[.slice f0 D2.nr s0, .slice f1 D2.ns s1] 46)) g6.heap.size 46 (.slice f0 D2.nr s0) (.slice f1 D2.ns s1)) := Box2.madeAt rfl _ _ _
      have VA : Hid (BankV (g6.alloc (.cells #[.slice f0 D2.nr s0, .slice f1 D2.ns s1] 46)) D2 f0 f1) := hbe.bankV.below hbx
      replace LQ : Hid (Els (g6.alloc (.cells #[.slice f0 D2.nr s0, .slice f1 D2.ns s1] 46)) 5 (some ⟨lb, lo, none⟩) m (rqF QQ)) := (LQ.out.below hb).below hbx
      replace X4 : Hid (Box2 (g6.alloc (.cells #[.slice f0 D2.nr s0, .slice f1 D2.ns s1] 46)) p4 46 (.slice a0 DM.nr c0) (.slice a1 DM.ns c1)) := (X4.out.below hb).below hbx
      replace V4 : Hid (BankV (g6.alloc (.cells #[.slice f0 D2.nr s0, .slice f1 D2.ns s1] 46)) DM a0 a1) := (V4.out.below hb).below hbx
      replace NC : Hid (Els (g6.alloc (.cells #[.slice f0 D2.nr s0, .slice f1 D2.ns s1] 46)) 1 (some ⟨cb, co, none⟩) m (inF (told QQ))) := (NC.out.below hb).below hbx
      replace XX : Hid (Box2 (g6.alloc (.cells #[.slice f0 D2.nr s0, .slice f1 D2.ns s1] 46)) px 46 (.slice x0 D0.nr y0) (.slice x1 D0.ns y1)) := (XX.out.below hb).below hbx
      replace VX : Hid (BankV (g6.alloc (.cells #[.slice f0 D2.nr s0, .slice f1 D2.ns s1] 46)) D0 x0 x1) := (VX.out.below hb).below hbx
      replace XR : Hid (RqB (g6.alloc (.cells #[.slice f0 D2.nr s0, .slice f1 D2.ns s1] 46)) pr x) := (XR.out.below hb).below hbx
      replace XW : Hid (Box3 (g6.alloc (.cells #[.slice f0 D2.nr s0, .slice f1 D2.ns s1] 46)) pw 54 (.int .i64 rw0.v) (.int .i64 rw0.c) (.string rw0.r)) := (XW.out.below hb).below hbx
      replace XY : Hid (Box2 (g6.alloc (.cells #[.slice f0 D2.nr s0, .slice f1 D2.ns s1] 46)) py 46 (.slice b0 D1.nr z0) (.slice b1 D1.ns z1)) := (XY.out.below hb).below hbx
      replace VY : Hid (BankV (g6.alloc (.cells #[.slice f0 D2.nr s0, .slice f1 D2.ns s1] 46)) D1 b0 b1) := (VY.out.below hb).below hbx
      replace A1 : Hid (Below w.heap.size w (g6.alloc (.cells #[.slice f0 D2.nr s0, .slice f1 D2.ns s1] 46))) := (A1.out.trans (hb.mono A1.out.size)).trans (hbx.mono (A1.out.trans (hb.mono A1.out.size)).size)
      replace K0 : Hid (Below wr.heap.size wr (g6.alloc (.cells #[.slice f0 D2.nr s0, .slice f1 D2.ns s1] 46))) := (K0.out.trans (hb.mono K0.out.size)).trans (hbx.mono (K0.out.trans (hb.mono K0.out.size)).size)
      have cc0 := HCC.out _ K0.out
      have tt : (t != t) = false := by simp
      obtain ⟨q0, q1, q2, q3, q4⟩ := XR.out.c
      have xy0 := XY.out.c0
      have xy1 := XY.out.c1
      have km := HM.out.1
      clear hb hbx hbe AD1
      go_wp2_with fail
      clear q0 q1 q2 q3 q4 xy0 xy1 cc0 tt km
      generalize (g6.alloc (.cells #[.slice f0 D2.nr s0, .slice f1 D2.ns s1] 46)) = g7 at *
      obtain ⟨pg, hpg⟩ : ∃ x, x = g6.heap.size := ⟨_, rfl⟩
      rw [← hpg] at XA ⊢
      clear hpg
      refine (RD1.out _ _ _ _ _ VY.out (TW.out.below A1.out)).mono ?_
      rintro e g8 ⟨rfl, hb⟩
      have hbx : Below g8.heap.size g8 (g8.alloc (.cells #[.int .i64 rn0.v, .int .i64 rn0.c, .string rn0.r] 54)) := (Below.refl _ _).alloc (Nat.le_refl _) _
      have XN : Hid (Box3 (g8.alloc (.cells #[.int .i64 rn0.v, .int .i64 rn0.c, .string rn0.r] 54)) g8.heap.size 54 (.int .i64 rn0.v) (.int .i64 rn0.c) (.string rn0.r)) := Box3.madeAt rfl _ _ _ _
      replace LQ : Hid (Els (g8.alloc (.cells #[.int .i64 rn0.v, .int .i64 rn0.c, .string rn0.r] 54)) 5 (some ⟨lb, lo, none⟩) m (rqF QQ)) := (LQ.out.below hb).below hbx
      replace X4 : Hid (Box2 (g8.alloc (.cells #[.int .i64 rn0.v, .int .i64 rn0.c, .string rn0.r] 54)) p4 46 (.slice a0 DM.nr c0) (.slice a1 DM.ns c1)) := (X4.out.below hb).below hbx
      replace V4 : Hid (BankV (g8.alloc (.cells #[.int .i64 rn0.v, .int .i64 rn0.c, .string rn0.r] 54)) DM a0 a1) := (V4.out.below hb).below hbx
      replace NC : Hid (Els (g8.alloc (.cells #[.int .i64 rn0.v, .int .i64 rn0.c, .string rn0.r] 54)) 1 (some ⟨cb, co, none⟩) m (inF (told QQ))) := (NC.out.below hb).below hbx
      replace XX : Hid (Box2 (g8.alloc (.cells #[.int .i64 rn0.v, .int .i64 rn0.c, .string rn0.r] 54)) px 46 (.slice x0 D0.nr y0) (.slice x1 D0.ns y1)) := (XX.out.below hb).below hbx
      replace VX : Hid (BankV (g8.alloc (.cells #[.int .i64 rn0.v, .int .i64 rn0.c, .string rn0.r] 54)) D0 x0 x1) := (VX.out.below hb).below hbx
      replace XR : Hid (RqB (g8.alloc (.cells #[.int .i64 rn0.v, .int .i64 rn0.c, .string rn0.r] 54)) pr x) := (XR.out.below hb).below hbx
      replace XW : Hid (Box3 (g8.alloc (.cells #[.int .i64 rn0.v, .int .i64 rn0.c, .string rn0.r] 54)) pw 54 (.int .i64 rw0.v) (.int .i64 rw0.c) (.string rw0.r)) := (XW.out.below hb).below hbx
      replace XY : Hid (Box2 (g8.alloc (.cells #[.int .i64 rn0.v, .int .i64 rn0.c, .string rn0.r] 54)) py 46 (.slice b0 D1.nr z0) (.slice b1 D1.ns z1)) := (XY.out.below hb).below hbx
      replace VY : Hid (BankV (g8.alloc (.cells #[.int .i64 rn0.v, .int .i64 rn0.c, .string rn0.r] 54)) D1 b0 b1) := (VY.out.below hb).below hbx
      replace XA : Hid (Box2 (g8.alloc (.cells #[.int .i64 rn0.v, .int .i64 rn0.c, .string rn0.r] 54)) pg 46 (.slice f0 D2.nr s0) (.slice f1 D2.ns s1)) := (XA.out.below hb).below hbx
      replace VA : Hid (BankV (g8.alloc (.cells #[.int .i64 rn0.v, .int .i64 rn0.c, .string rn0.r] 54)) D2 f0 f1) := (VA.out.below hb).below hbx
      replace A1 : Hid (Below w.heap.size w (g8.alloc (.cells #[.int .i64 rn0.v, .int .i64 rn0.c, .string rn0.r] 54))) := (A1.out.trans (hb.mono A1.out.size)).trans (hbx.mono (A1.out.trans (hb.mono A1.out.size)).size)
      replace K0 : Hid (Below wr.heap.size wr (g8.alloc (.cells #[.int .i64 rn0.v, .int .i64 rn0.c, .string rn0.r] 54))) := (K0.out.trans (hb.mono K0.out.size)).trans (hbx.mono (K0.out.trans (hb.mono K0.out.size)).size)
      clear hb hbx RD1
      obtain ⟨q0, q1, q2, q3, q4⟩ := XR.out.c
      have xw0 := XW.out.c0
      have xw1 := XW.out.c1
      have xw2 := XW.out.c2
      have xn0 := XN.out.c0
      have xn1 := XN.out.c1
      have xn2 := XN.out.c2
      go_upto_region 19 with fail
      generalize (g8.alloc (.cells #[.int .i64 rn0.v, .int .i64 rn0.c, .string rn0.r] 54)) = g9 at *
      obtain ⟨pn, hpn⟩ : ∃ x, x = g8.heap.size := ⟨_, rfl⟩
      rw [← hpn] at XN xn0 xn1 xn2 ⊢
      clear hpn
      rcases HRG.out with hE | ⟨hC, hS, hZ⟩
      · rw [hE] at xn0 xn1 xn2
        have r1 : ¬ rw0.c < rw0.c := by omega
        have r2 : ¬ rw0.c + 1 < rw0.c := by omega
        have r3 : rw0.c ≤ 1000000 := HRR.out.2
        have r4 : 0 ≤ rw0.c := HRR.out.1
        have NQ := neqRg rw0
        clear HRG hE
        go_upto_region 21 with fail
        clear q0 q1 q2 q3 q4 xw0 xw1 xw2 xn0 xn1 xn2 r1 r2 r3 r4 NQ
        by_cases h6 : t = 6
        · have n3 : (t != 6) = false := by simpa using h6
          clear HAG h6
          have HQ : Hid (BkSt w ((g9.setCell ⟨px, 0, none⟩ (.slice b0 D1.nr z0)).setCell ⟨px, 1, none⟩ (.slice b1 D1.ns z1)) px p4 (some ⟨lb, lo, none⟩) m QQ (some ⟨cb, co, none⟩) a0 a1 c0 c1 (k + 1)) := ⟨⟨b0, z0, b1, z1, by rw [← ED1.out]; exact (XX.out.set0 _).set1 _, by rw [← ED1.out]; exact VY.out.box XX.out _ _, Z01.out.1, Z01.out.2⟩, (LQ.out.box (noSl_rq _) XX.out.c0 _).box (noSl_rq _) (XX.out.set0 _).c1 _, (NC.out.box (noSl_in _) XX.out.c0 _).box (noSl_in _) (XX.out.set0 _).c1 _, by rw [← EDM.out]; exact (X4.out.other (a := ⟨px, 0, none⟩) (by have := HPX.out.2; dsimp only; omega) _).other (a := ⟨px, 1, none⟩) (by have := HPX.out.2; dsimp only; omega) _, by rw [← EDM.out]; exact V4.out.box XX.out _ _, (A1.out.setCell (by have := HPX.out.1; dsimp only; omega) _).setCell (by have := HPX.out.1; dsimp only; omega) _⟩
          have xx0 := XX.out.c0
          have xx1 := XX.out.c1
          have xf0 := XX.out.fr 0
          have xf1 := XX.out.fr 1
          have xy0 := XY.out.c0
          have xy1 := XY.out.c1
          have km := HM.out.1
          clear LQ NC X4 V4 XX VX XR XW XY VY XA VA XN A1 K0 HCC HRR
          go_wp2
          clear xx0 xx1 xf0 xf1 xy0 xy1
          go_roundw
          case rel => exact ⟨k + 1, by have := HLT.out; omega, by go_num, HQ.out⟩
          case measure => have := HLT.out; simp [intOf]; omega
        · skip
          obtain ⟨rfl, rfl, rfl⟩ := HAG.out h6
          have n2 : (u != u) = false := by simp
          have n1 : (t != t) = false := by simp
          have n3 : (t != 6) = true := by simpa using h6
          have xa0 := XA.out.c0
          have xa1 := XA.out.c1
          have xy0 := XY.out.c0
          have xy1 := XY.out.c1
          clear HAG
          go_wp2_with fail
          clear xa0 xa1 xy0 xy1 n2 n1 n3
          refine (sameBank_yes D1 f0 f1 b0 b1 s0 s1 z0 z1 (by have := HK1.out.1.1; omega) (by have := HK1.out.2.1; omega) g9 VA.out VY.out).mono ?_
          rintro e g10 ⟨rfl, hb⟩
          replace LQ : Hid (Els g10 5 (some ⟨lb, lo, none⟩) m (rqF QQ)) := LQ.out.below hb
          replace X4 : Hid (Box2 g10 p4 46 (.slice a0 DM.nr c0) (.slice a1 DM.ns c1)) := X4.out.below hb
          replace V4 : Hid (BankV g10 DM a0 a1) := V4.out.below hb
          replace NC : Hid (Els g10 1 (some ⟨cb, co, none⟩) m (inF (told QQ))) := NC.out.below hb
          replace XX : Hid (Box2 g10 px 46 (.slice x0 D0.nr y0) (.slice x1 D0.ns y1)) := XX.out.below hb
          replace VX : Hid (BankV g10 D0 x0 x1) := VX.out.below hb
          replace XR : Hid (RqB g10 pr x) := XR.out.below hb
          replace XW : Hid (Box3 g10 pw 54 (.int .i64 rw0.v) (.int .i64 rw0.c) (.string rw0.r)) := XW.out.below hb
          replace XY : Hid (Box2 g10 py 46 (.slice b0 D1.nr z0) (.slice b1 D1.ns z1)) := XY.out.below hb
          replace VY : Hid (BankV g10 D1 b0 b1) := VY.out.below hb
          replace XA : Hid (Box2 g10 pg 46 (.slice f0 D1.nr s0) (.slice f1 D1.ns s1)) := XA.out.below hb
          replace VA : Hid (BankV g10 D1 f0 f1) := VA.out.below hb
          replace A1 : Hid (Below w.heap.size w g10) := A1.out.trans (hb.mono A1.out.size)
          clear hb
          have HQ : Hid (BkSt w ((g10.setCell ⟨px, 0, none⟩ (.slice b0 D1.nr z0)).setCell ⟨px, 1, none⟩ (.slice b1 D1.ns z1)) px p4 (some ⟨lb, lo, none⟩) m QQ (some ⟨cb, co, none⟩) a0 a1 c0 c1 (k + 1)) := ⟨⟨b0, z0, b1, z1, by rw [← ED1.out]; exact (XX.out.set0 _).set1 _, by rw [← ED1.out]; exact VY.out.box XX.out _ _, Z01.out.1, Z01.out.2⟩, (LQ.out.box (noSl_rq _) XX.out.c0 _).box (noSl_rq _) (XX.out.set0 _).c1 _, (NC.out.box (noSl_in _) XX.out.c0 _).box (noSl_in _) (XX.out.set0 _).c1 _, by rw [← EDM.out]; exact (X4.out.other (a := ⟨px, 0, none⟩) (by have := HPX.out.2; dsimp only; omega) _).other (a := ⟨px, 1, none⟩) (by have := HPX.out.2; dsimp only; omega) _, by rw [← EDM.out]; exact V4.out.box XX.out _ _, (A1.out.setCell (by have := HPX.out.1; dsimp only; omega) _).setCell (by have := HPX.out.1; dsimp only; omega) _⟩
          have xx0 := XX.out.c0
          have xx1 := XX.out.c1
          have xf0 := XX.out.fr 0
          have xf1 := XX.out.fr 1
          have xy0 := XY.out.c0
          have xy1 := XY.out.c1
          have km := HM.out.1
          clear LQ NC X4 V4 XX VX XR XW XY VY XA VA XN A1 K0 HCC HRR
          go_wp2
          clear xx0 xx1 xf0 xf1 xy0 xy1
          go_roundw
          case rel => exact ⟨k + 1, by have := HLT.out; omega, by go_num, HQ.out⟩
          case measure => have := HLT.out; simp [intOf]; omega
      · rw [hC] at xn1
        rw [hS] at xn2
        subst hZ
        have r1 : ¬ rw0.c + 1 < rw0.c := by omega
        have r2 : ¬ rw0.c + 1 < rw0.c + 1 := by omega
        have r3 : rw0.c ≤ 1000000 := HRR.out.2
        have r4 : 0 ≤ rw0.c := HRR.out.1
        have r5 : (rw0.c + 1 == rw0.c) = false := by simp; omega
        have NQ := neqRg2 rw0 ⟨rn0.v, rw0.c + 1, x.r⟩ rfl
        dsimp only at NQ
        clear HRG hC hS
        go_upto_region 21 with fail
        clear q0 q1 q2 q3 q4 xw0 xw1 xw2 xn0 xn1 xn2 r1 r2 r3 r4 r5 NQ
        obtain ⟨rfl, ht2, rfl⟩ := HAG.out (by decide)
        subst ht2
        have n2 : (u != u) = false := by simp
        have xa0 := XA.out.c0
        have xa1 := XA.out.c1
        have xy0 := XY.out.c0
        have xy1 := XY.out.c1
        clear HAG
        go_wp2_with fail
        clear xa0 xa1 xy0 xy1 n2
        refine (sameBank_yes D1 f0 f1 b0 b1 s0 s1 z0 z1 (by have := HK1.out.1.1; omega) (by have := HK1.out.2.1; omega) g9 VA.out VY.out).mono ?_
        rintro e g10 ⟨rfl, hb⟩
        replace LQ : Hid (Els g10 5 (some ⟨lb, lo, none⟩) m (rqF QQ)) := LQ.out.below hb
        replace X4 : Hid (Box2 g10 p4 46 (.slice a0 DM.nr c0) (.slice a1 DM.ns c1)) := X4.out.below hb
        replace V4 : Hid (BankV g10 DM a0 a1) := V4.out.below hb
        replace NC : Hid (Els g10 1 (some ⟨cb, co, none⟩) m (inF (told QQ))) := NC.out.below hb
        replace XX : Hid (Box2 g10 px 46 (.slice x0 D0.nr y0) (.slice x1 D0.ns y1)) := XX.out.below hb
        replace VX : Hid (BankV g10 D0 x0 x1) := VX.out.below hb
        replace XR : Hid (RqB g10 pr x) := XR.out.below hb
        replace XW : Hid (Box3 g10 pw 54 (.int .i64 rw0.v) (.int .i64 rw0.c) (.string rw0.r)) := XW.out.below hb
        replace XY : Hid (Box2 g10 py 46 (.slice b0 D1.nr z0) (.slice b1 D1.ns z1)) := XY.out.below hb
        replace VY : Hid (BankV g10 D1 b0 b1) := VY.out.below hb
        replace XA : Hid (Box2 g10 pg 46 (.slice f0 D1.nr s0) (.slice f1 D1.ns s1)) := XA.out.below hb
        replace VA : Hid (BankV g10 D1 f0 f1) := VA.out.below hb
        replace A1 : Hid (Below w.heap.size w g10) := A1.out.trans (hb.mono A1.out.size)
        clear hb
        have HQ : Hid (BkSt w ((g10.setCell ⟨px, 0, none⟩ (.slice b0 D1.nr z0)).setCell ⟨px, 1, none⟩ (.slice b1 D1.ns z1)) px p4 (some ⟨lb, lo, none⟩) m QQ (some ⟨cb, co, none⟩) a0 a1 c0 c1 (k + 1)) := ⟨⟨b0, z0, b1, z1, by rw [← ED1.out]; exact (XX.out.set0 _).set1 _, by rw [← ED1.out]; exact VY.out.box XX.out _ _, Z01.out.1, Z01.out.2⟩, (LQ.out.box (noSl_rq _) XX.out.c0 _).box (noSl_rq _) (XX.out.set0 _).c1 _, (NC.out.box (noSl_in _) XX.out.c0 _).box (noSl_in _) (XX.out.set0 _).c1 _, by rw [← EDM.out]; exact (X4.out.other (a := ⟨px, 0, none⟩) (by have := HPX.out.2; dsimp only; omega) _).other (a := ⟨px, 1, none⟩) (by have := HPX.out.2; dsimp only; omega) _, by rw [← EDM.out]; exact V4.out.box XX.out _ _, (A1.out.setCell (by have := HPX.out.1; dsimp only; omega) _).setCell (by have := HPX.out.1; dsimp only; omega) _⟩
        have xx0 := XX.out.c0
        have xx1 := XX.out.c1
        have xf0 := XX.out.fr 0
        have xf1 := XX.out.fr 1
        have xy0 := XY.out.c0
        have xy1 := XY.out.c1
        have km := HM.out.1
        clear LQ NC X4 V4 XX VX XR XW XY VY XA VA XN A1 K0 HCC HRR
        go_wp2
        clear xx0 xx1 xf0 xf1 xy0 xy1
        go_roundw
        case rel => exact ⟨k + 1, by have := HLT.out; omega, by go_num, HQ.out⟩
        case measure => have := HLT.out; simp [intOf]; omega
    · obtain rfl : k = m := by omega
      have hlt' : ¬ (k : Int) < (k : Int) := by omega
      have HXX : Hid (Box2 wr px 46 (.slice x0 DM.nr y0) (.slice x1 DM.ns y1)) := by rw [EDM.out]; exact hxx
      have HVX : Hid (BankV wr DM x0 x1) := by rw [EDM.out]; exact hvx
      have x40 := X4.out.c0
      have x41 := X4.out.c1
      have xx0 := HXX.out.c0
      have xx1 := HXX.out.c1
      clear hst hxx hvx zx0 zx1
      go_wp2_with fail
      clear x40 x41 xx0 xx1
      refine (sameBank_yes DM x0 x1 a0 a1 y0 y1 c0 c1 (by have := HDM.out.1.1; omega) (by have := HDM.out.2.1; omega) wr HVX.out V4.out).mono ?_
      rintro e u1 ⟨rfl, hb⟩
      replace A1 : Hid (Below w.heap.size w u1) := A1.out.trans (hb.mono A1.out.size)
      clear hb
      go_wp2
      go_ret
      exact ⟨rfl, A1.out⟩
end Go.Proofs.YtpngjkhncfbnpaaDoor
