/-
  Texts of the proof, joined: LawFnBankBy.
-/
import Derived.Test.YtpngjkhncfbnpaaDoorU51
namespace Go.Proofs.YtpngjkhncfbnpaaDoor
open Go.ChangeShapes Go.WideShapes Go.ChangeAt Go.RowKit
set_option linter.unusedVariables false
def bkT (d : Bk) : ByteArray := kstr (bkF d) 0 (bankL d).length
theorem RL.text {w : World} {B g c : Nat} {d : Bk} (h : RL w B g c (bankL d)) : (convert 40 9 (.slice (some ⟨g, 0, none⟩) (bankL d).length c)).run Tryd.prog w = .ok (.string (bkT d)) w := kstr_of_code (code8_of_RL h)
theorem bkF_lt {d : Bk} (h : d.Ok) (hb : ∀ x ∈ bankL d, x < 256) (i : Nat) : bkF d i < 256 := by
  unfold bkF
  rw [List.getD]
  rcases q : (bankL d)[i]? with _ | x
  · simp
  · have := hb x (List.mem_of_getElem? q)
    simpa using this
theorem numL_lt (k x : Nat) : ∀ y ∈ numL k x, y < 256 := fun y hy => by
  unfold numL numP at hy
  obtain ⟨j, _, rfl⟩ := List.mem_map.1 hy
  exact Nat.mod_lt _ (by omega)
theorem strL_lt (r : ByteArray) : ∀ y ∈ strL r, y < 256 := fun y hy => by
  unfold strL at hy
  obtain ⟨j, _, rfl⟩ := List.mem_map.1 hy
  exact j.toNat_lt
theorem flatL_lt {T : Type} (g : T → List Nat) (G : Nat → T) (P : Nat → Prop) : ∀ k, (∀ i, i < k → ∀ y ∈ g (G i), P y) → ∀ y ∈ flatL g G k, P y
  | 0, _, y, hy => by cases hy
  | k + 1, h, y, hy => by
    rw [flatL] at hy
    rcases List.mem_append.1 hy with q | q
    · exact flatL_lt g G P k (fun i hi => h i (by omega)) y q
    · exact h k (by omega) y q
theorem bankL_lt2 {d : Bk} (h : d.Ok) : ∀ x ∈ bankL d, x < 256 := fun x hx => by
  have h1 := h.1.1
  have h2 := h.2.1
  unfold bankL at hx
  rcases List.mem_append.1 hx with q | q
  · rcases List.mem_append.1 q with q | q
    · rcases List.mem_append.1 q with q | q
      · have := List.mem_singleton.1 q
        omega
      · refine flatL_lt rgL d.R (· < 256) d.nr (fun i hi y hy => ?_) x q
        have hO := (h.1.2 i hi).1
        unfold rgL at hy
        rcases List.mem_append.1 hy with q | q
        · rcases List.mem_append.1 q with q | q
          · have := List.mem_singleton.1 q
            have := hO.1
            omega
          · exact numL_lt _ _ _ q
        · exact strL_lt _ _ q
    · have := List.mem_singleton.1 q
      omega
  · refine flatL_lt seL d.S (· < 256) d.ns (fun i hi y hy => ?_) x q
    have hO := (h.2.2 i hi).1
    unfold seL at hy
    rcases List.mem_append.1 hy with q | q
    · rcases List.mem_append.1 q with q | q
      · rcases List.mem_append.1 q with q | q
        · exact numL_lt _ _ _ q
        · exact numL_lt _ _ _ q
      · have := List.mem_singleton.1 q
        have := hO.2.1
        omega
    · exact numL_lt _ _ _ q
theorem bkT_seg {d : Bk} {z : Nat → Nat} {N : Nat} (h : bankL d = seg z 0 N) : bkT d = kstr z 0 N := by
  have hl : (bankL d).length = N := by rw [h, seg_length]
  unfold bkT
  rw [hl]
  refine kstr_congr (fun i hi => ?_)
  rw [Nat.zero_add]
  unfold bkF
  rw [h]
  unfold seg
  simp [List.getD, List.getElem?_range hi]
set_option maxRecDepth 100000 in
set_option maxHeartbeats 8000000 in
theorem law_fnBankBytes (a : Option Addr) (len cap : Nat) (zs : List Int) (w : World) (h : IsRow .u8 w a len cap zs) (hm : len ≤ maxLen) (hT : TabW w) :
    Calls Tryd.prog 5 #[.slice a len cap] w fun e w' => e = .returned (.bool true) ∧ Below w.heap.size w w' := by
  by_cases hl : 1048576 < len
  · have hl' : (1048576 : Int) < (len : Int) := by omega
    clear h hT
    unfold maxLen at hm
    go_enter Tryd.func5, Tryd.ntmps5
    go_wp2
    go_ret
    exact ⟨rfl, Below.refl _ _⟩
  have hl' : ¬ (1048576 : Int) < (len : Int) := by omega
  obtain ⟨z, hz, hc⟩ := code8_of_row h
  have hcap := isRow_capB h
  have hnil : a = none → len = 0 := fun e => by
    rcases Nat.eq_zero_or_pos len with q | q
    · exact q
    · obtain ⟨b, o, e', _⟩ := hc.opened q
      rw [e] at e'
      cases e'
  obtain ⟨d2, cd, h2r, h2s, h2k, h2i, h2m⟩ := rb_code a len cap z hz hcap hnil
  have RQ : Hid (Calls Tryd.prog 18 #[.slice a len cap] w fun e w' => RetRqs w.heap.size e w' ∧ Below w.heap.size w w') := requestsOf_t a len cap z hz hm w hc
  have HC : Hid (Code8 w a len z) := hc
  have TW : Hid (TabW w) := hT
  have H2K : Hid (cd = 0 → d2.Ok ∧ bankL d2 = seg z 0 len ∧ 0 < len) := h2k
  have H2I : Hid (∀ w : World, Code8 w a len z → TabW w → Calls Tryd.prog 28 #[.slice a len cap] w fun e w' => RbA w' e d2 cd ∧ Below w.heap.size w w') := h2i
  have H2M : Hid (∀ w : World, Code8 w a len z → Calls Tryd.prog 29 #[.slice a len cap] w fun e w' => RbA w' e d2 cd ∧ Below w.heap.size w w') := h2m
  clear h hc hT h2k h2i h2m hl hcap hnil h2r h2s hm hz
  go_enter Tryd.func5, Tryd.ntmps5
  go_wp2_with fail
  refine RQ.out.mono ?_
  rintro e w1 ⟨⟨m, QQ, pa, pc, hm, hok, rfl, ho⟩, hb⟩
  have A1 : Hid (Below w.heap.size w w1) := hb
  have hD : RunD QQ m (runK QQ m) m (told QQ) 0 := .inr (.inr (.inr ⟨by omega, hok, rfl, rfl, rfl, rfl⟩))
  have BR : Hid (Calls Tryd.prog 20 #[.slice pa m pc] w1 fun e w' => RunA (runK QQ m) m (told QQ) 0 w1.heap.size e w' ∧ Below w1.heap.size w1 w') := specRunB_any pa m pc QQ _ _ _ _ hD (by unfold maxLen; omega) w1 ho.els
  have hdk : (runK QQ m).Ok := runK_ok QQ m hok
  generalize runK QQ m = d at *
  have HD : Hid d.Ok := hdk
  clear hb ho hok hm RQ hD hdk
  go_wp2_with fail
  refine BR.out.mono ?_
  rintro e w2 ⟨⟨a0, c0, a1, c1, ac, cc, rfl, hBE, hIE⟩, hb⟩
  have hv : BankV w2 d a0 a1 := ⟨hBE.e0.els, hBE.e1.els⟩
  have hbx : Below w2.heap.size w2 (w2.alloc (.cells #[.slice a0 d.nr c0, .slice a1 d.ns c1] 46)) := (Below.refl _ _).alloc (Nat.le_refl _) _
  have X0 : Hid (Box2 (w2.alloc (.cells #[.slice a0 d.nr c0, .slice a1 d.ns c1] 46)) w2.heap.size 46 (.slice a0 d.nr c0) (.slice a1 d.ns c1)) := Box2.madeAt rfl _ _ _
  have V0 : Hid (BankV (w2.alloc (.cells #[.slice a0 d.nr c0, .slice a1 d.ns c1] 46)) d a0 a1) := hv.below hbx
  replace A1 : Hid (Below w.heap.size w (w2.alloc (.cells #[.slice a0 d.nr c0, .slice a1 d.ns c1] 46))) := (A1.out.trans (hb.mono A1.out.size)).trans (hbx.mono (A1.out.trans (hb.mono A1.out.size)).size)
  clear hBE hIE hb hv hbx BR
  go_wp2_with fail
  generalize (w2.alloc (.cells #[.slice a0 d.nr c0, .slice a1 d.ns c1] 46)) = v3 at *
  obtain ⟨p0, hp0⟩ : ∃ x, x = w2.heap.size := ⟨_, rfl⟩
  rw [← hp0] at X0 ⊢
  clear hp0
  refine (implBankBytes_ok d HD.out a0 a1 c0 c1 v3 V0.out (TW.out.below A1.out)).mono ?_
  rintro e v4 ⟨⟨g1, k1, rfl, hR1⟩, hb⟩
  have R1 : Hid (RL v4 v3.heap.size g1 k1 (bankL d)) := hR1
  replace X0 : Hid (Box2 v4 p0 46 (.slice a0 d.nr c0) (.slice a1 d.ns c1)) := X0.out.below hb
  replace V0 : Hid (BankV v4 d a0 a1) := V0.out.below hb
  replace A1 : Hid (Below w.heap.size w v4) := A1.out.trans (hb.mono A1.out.size)
  clear hR1 hb
  have x0 := X0.out.c0
  have x1 := X0.out.c1
  go_wp2_with fail
  clear x0 x1
  refine (specBankBytes_ok d HD.out a0 a1 c0 c1 v4 V0.out).mono ?_
  rintro e v5 ⟨⟨g2, k2, rfl, hR2⟩, hb⟩
  have R2 : Hid (RL v5 v4.heap.size g2 k2 (bankL d)) := hR2
  replace R1 : Hid (RL v5 v3.heap.size g1 k1 (bankL d)) := R1.out.below hb
  replace X0 : Hid (Box2 v5 p0 46 (.slice a0 d.nr c0) (.slice a1 d.ns c1)) := X0.out.below hb
  replace V0 : Hid (BankV v5 d a0 a1) := V0.out.below hb
  replace A1 : Hid (Below w.heap.size w v5) := A1.out.trans (hb.mono A1.out.size)
  clear hR2 hb
  go_wp2_with fail
  refine (rb_back d HD.out g1 k1 R1.out.cap v5 (code8_of_RL R1.out) (TW.out.below A1.out) (bkF_lt HD.out (bankL_lt2 HD.out))).mono ?_
  rintro e v6 ⟨⟨b0, y0, b1, y1, rfl, hv⟩, hb⟩
  have hbx : Below v6.heap.size v6 (v6.alloc (.cells #[.slice b0 d.nr y0, .slice b1 d.ns y1] 46)) := (Below.refl _ _).alloc (Nat.le_refl _) _
  have X1 : Hid (Box2 (v6.alloc (.cells #[.slice b0 d.nr y0, .slice b1 d.ns y1] 46)) v6.heap.size 46 (.slice b0 d.nr y0) (.slice b1 d.ns y1)) := Box2.madeAt rfl _ _ _
  have V1 : Hid (BankV (v6.alloc (.cells #[.slice b0 d.nr y0, .slice b1 d.ns y1] 46)) d b0 b1) := hv.below hbx
  replace R1 : Hid (RL (v6.alloc (.cells #[.slice b0 d.nr y0, .slice b1 d.ns y1] 46)) v3.heap.size g1 k1 (bankL d)) := (R1.out.below hb).below hbx
  replace R2 : Hid (RL (v6.alloc (.cells #[.slice b0 d.nr y0, .slice b1 d.ns y1] 46)) v4.heap.size g2 k2 (bankL d)) := (R2.out.below hb).below hbx
  replace X0 : Hid (Box2 (v6.alloc (.cells #[.slice b0 d.nr y0, .slice b1 d.ns y1] 46)) p0 46 (.slice a0 d.nr c0) (.slice a1 d.ns c1)) := (X0.out.below hb).below hbx
  replace V0 : Hid (BankV (v6.alloc (.cells #[.slice b0 d.nr y0, .slice b1 d.ns y1] 46)) d a0 a1) := (V0.out.below hb).below hbx
  replace A1 : Hid (Below w.heap.size w (v6.alloc (.cells #[.slice b0 d.nr y0, .slice b1 d.ns y1] 46))) := (A1.out.trans (hb.mono A1.out.size)).trans (hbx.mono (A1.out.trans (hb.mono A1.out.size)).size)
  have q1 := R1.out.text
  have q2 := R2.out.text
  have x0 := X0.out.c0
  have x1 := X0.out.c1
  have z0 := X1.out.c0
  have z1 := X1.out.c1
  clear hv hb hbx
  generalize bkT d = K at *
  go_wp2_with fail
  clear x0 x1 z0 z1 q1 q2
  generalize (v6.alloc (.cells #[.slice b0 d.nr y0, .slice b1 d.ns y1] 46)) = v7 at *
  obtain ⟨p1, hp1⟩ : ∃ x, x = v6.heap.size := ⟨_, rfl⟩
  rw [← hp1] at X1 ⊢
  clear hp1
  refine (sameBank_yes d b0 b1 a0 a1 y0 y1 c0 c1 (by have := HD.out.1.1; omega) (by have := HD.out.2.1; omega) v7 V1.out V0.out).mono ?_
  rintro e u7 ⟨rfl, hb⟩
  replace A1 : Hid (Below w.heap.size w u7) := A1.out.trans (hb.mono A1.out.size)
  clear hb X0 X1 V0 V1 R1 R2
  go_wp2_with fail
  refine (H2I.out u7 (HC.out.below A1.out) (TW.out.below A1.out)).mono ?_
  rintro e v8 ⟨⟨e0, u0, e1, u1, rfl, hv⟩, hb⟩
  have hbx : Below v8.heap.size v8 (v8.alloc (.cells #[.slice e0 d2.nr u0, .slice e1 d2.ns u1] 46)) := (Below.refl _ _).alloc (Nat.le_refl _) _
  have X2 : Hid (Box2 (v8.alloc (.cells #[.slice e0 d2.nr u0, .slice e1 d2.ns u1] 46)) v8.heap.size 46 (.slice e0 d2.nr u0) (.slice e1 d2.ns u1)) := Box2.madeAt rfl _ _ _
  have V2 : Hid (BankV (v8.alloc (.cells #[.slice e0 d2.nr u0, .slice e1 d2.ns u1] 46)) d2 e0 e1) := hv.below hbx
  replace A1 : Hid (Below w.heap.size w (v8.alloc (.cells #[.slice e0 d2.nr u0, .slice e1 d2.ns u1] 46))) := (A1.out.trans (hb.mono A1.out.size)).trans (hbx.mono (A1.out.trans (hb.mono A1.out.size)).size)
  clear hv hb hbx H2I
  go_wp2_with fail
  generalize (v8.alloc (.cells #[.slice e0 d2.nr u0, .slice e1 d2.ns u1] 46)) = v9 at *
  obtain ⟨p2, hp2⟩ : ∃ x, x = v8.heap.size := ⟨_, rfl⟩
  rw [← hp2] at X2 ⊢
  clear hp2
  refine (H2M.out v9 (HC.out.below A1.out)).mono ?_
  rintro e v10 ⟨⟨f0, t0, f1, t1, rfl, hv⟩, hb⟩
  have hbx : Below v10.heap.size v10 (v10.alloc (.cells #[.slice f0 d2.nr t0, .slice f1 d2.ns t1] 46)) := (Below.refl _ _).alloc (Nat.le_refl _) _
  replace X2 : Hid (Box2 (v10.alloc (.cells #[.slice f0 d2.nr t0, .slice f1 d2.ns t1] 46)) p2 46 (.slice e0 d2.nr u0) (.slice e1 d2.ns u1)) := (X2.out.below hb).below hbx
  replace V2 : Hid (BankV (v10.alloc (.cells #[.slice f0 d2.nr t0, .slice f1 d2.ns t1] 46)) d2 e0 e1) := (V2.out.below hb).below hbx
  replace A1 : Hid (Below w.heap.size w (v10.alloc (.cells #[.slice f0 d2.nr t0, .slice f1 d2.ns t1] 46))) := (A1.out.trans (hb.mono A1.out.size)).trans (hbx.mono (A1.out.trans (hb.mono A1.out.size)).size)
  have ne : (cd != cd) = false := by simp
  clear hv hb hbx H2M
  by_cases hcd : cd = 0
  · obtain ⟨hd2, hseg, hpos⟩ := H2K.out hcd
    have HD2 : Hid d2.Ok := hd2
    have HSG : Hid (bkT d2 = kstr z 0 len) := bkT_seg hseg
    have HP : Hid (0 < len) := hpos
    subst hcd
    clear hd2 hseg hpos H2K ne
    have x0 := X2.out.c0
    have x1 := X2.out.c1
    go_wp2_with fail
    clear x0 x1
    generalize (v10.alloc (.cells #[.slice f0 d2.nr t0, .slice f1 d2.ns t1] 46)) = v11 at *
    refine (implBankBytes_ok d2 HD2.out e0 e1 u0 u1 v11 V2.out (TW.out.below A1.out)).mono ?_
    rintro e v12 ⟨⟨g3, k3, rfl, hR3⟩, hb⟩
    replace A1 : Hid (Below w.heap.size w v12) := A1.out.trans (hb.mono A1.out.size)
    have q1 := hR3.text
    have q2 : (convert 40 9 (.slice a len cap)).run Tryd.prog v12 = .ok (.string (kstr z 0 len)) v12 := by
      have hc := HC.out.below A1.out
      obtain ⟨b, o, rfl, _⟩ := hc.opened HP.out
      exact kstr_of_code hc
    rw [HSG.out] at q1
    generalize kstr z 0 len = K2 at *
    clear hR3 hb HSG
    go_wp2
    go_ret
    exact ⟨rfl, A1.out⟩
  · have hcb : (cd != 0) = true := by simpa using hcd
    clear H2K
    go_wp2
    go_ret
    exact ⟨rfl, A1.out⟩
end Go.Proofs.YtpngjkhncfbnpaaDoor
