/-
  Texts of the proof, joined: QuA.
-/
import Derived.Test.YtedncfcmhaaobaaV20
namespace Go.Proofs.Ytedncfcmhaaobaa
open Go.ChangeShapes Go.WideShapes Go.ChangeAt Go.RowKit
set_option linter.unusedVariables false
theorem oneIA (C : Nat → Int) (m : Nat) : ∀ u ∈ elv 1 m (inF C), u.oneCell' = true := oneIn C m
set_option maxRecDepth 100000 in
theorem allIn (w : World) (B : Nat) (v : Value) (n : Nat) (R : Nat → Int) (a : Option Addr) (m c : Nat) (Q : Nat → Int) (hB : B ≤ w.heap.size) (hn : n + m ≤ 100000) (h : EO w B 3 1 v n (inF R)) (hs : Els w 1 a m (inF Q)) (ha : a = none → c = 0) :
  ∃ v' w', (∀ ty, (Builtin.append_ #[29, 29] ty #[v, .slice a m c]).run Try.prog w = .ok v' w') ∧ EO w' B 3 1 v' (n + m) (inF (catE n R Q)) ∧ w.grownBy w' v.ownBlock ∧ (v'.ownBlock = v.ownBlock ∨ v'.ownBlock = some w.heap.size) := by
 obtain ⟨i, hi, hz, hsz, hby⟩ := info_parts Try.infoInE
 have hcat : elv 1 (n + m) (inF (catE n R Q)) = elv 1 n (inF R) ++ elv 1 m (inF Q) := elv_cat 1 n (inF R) (inF Q) _ (fun i hi => by unfold inF; rw [catE_lt _ _ hi]) (fun i => by unfold inF; rw [catE_at]) m
 have some_ : ∀ ad : Addr, (∀ (j : Nat) (u : Value), (elv 1 m (inF Q))[j]? = some u → w.cell? (ad.add j) = some u) → ∃ v' w', (∀ ty, (Builtin.append_ #[29, 29] ty #[v, .slice (some ad) m c]).run Try.prog w = .ok v' w') ∧ EO w' B 3 1 v' (n + m) (inF (catE n R Q)) ∧ w.grownBy w' v.ownBlock ∧ (v'.ownBlock = v.ownBlock ∨ v'.ownBlock = some w.heap.size) := fun ad hnews => by
  obtain ⟨v', w', hr, ho, hg, _, hloc⟩ := run_append_own_at (P := Try.prog) w B 29 29 3 i _ 1 8 Try.underlying29 hi hz hsz hby rfl (by decide) v n _ h ad m c (elv 1 m (inF Q)) (elv_length _ _ _) hnews (oneIA Q m) (by unfold maxLen; omega) (by omega) hB
  exact ⟨v', w', fun ty => hr, by unfold EO; rw [hcat]; exact ho, hg, hloc⟩
 by_cases h0 : m = 0
 ·subst h0
  cases a with
  | none =>
   obtain rfl := ha rfl
   exact ⟨v, w, fun ty => run_append_owned_none w B 29 ty 3 i 1 Try.underlying29 hi v n _ h, by unfold EO; rw [hcat]; simpa [elv, EO] using h, ⟨rfl, rfl, rfl, Nat.le_refl _, fun _ _ _ => rfl⟩, .inl rfl⟩
  | some ad => exact some_ ad (fun j u hj => by simp [elv] at hj)
 ·obtain ⟨b, off, rfl, hc⟩ := hs.opened (by omega)
  exact some_ _ (elv_news hc)
set_option maxRecDepth 100000 in
set_option maxHeartbeats 4000000 in
theorem l09Add_any (a : Option Addr) (n c : Nat) (E : Nat → Int) (x : Int) (hn : n ≤ 1000) (hsl : SlP a n c) (w : World) (h : Num w a n E) :
  Calls Try.prog 98 #[.slice a n c, .int .i64 x] w fun e w' => (∃ b d, e = .returned (.slice b (n + 1) d) ∧ IE w' w.heap.size (.slice b (n + 1) d) (n + 1) (insE E (plcE x E n) x)) ∧ Below w.heap.size w w' := by
 obtain ⟨K, hK⟩ : ∃ k, k = plcE x E n := ⟨_, rfl⟩
 have kn : K ≤ n := by rw [hK]; exact plcE_le _ _ _
 have klt : ∀ i, i < K → E i < x := fun i hi => plcE_lt x n E i (by omega)
 have kat : K < n → ¬ E K < x := fun q => by rw [hK] at q ⊢; exact plcE_at x n E q
 rw [← hK]
 have H : Hid (Num w a n E) := h
 have SP : Hid (SlP a n c) := hsl
 have KN : Hid (K ≤ n) := kn
 clear h hsl hK
 go_enter Try.func98, Try.ntmps98
 go_wp2
 go_loopw [5] (fun i wr => ∃ k : Nat, k ≤ K ∧ i = .int .i64 k ∧ wr = w) (fun i _ => n - (intOf i).toNat)
 case atStart => exact ⟨0, by omega, rfl, rfl⟩
 case round =>
  obtain ⟨k, hk, rfl, rfl⟩ := hrel
  by_cases hlt : k < K
  ·have hlt' : (k : Int) < (n : Int) := by omega
   obtain ⟨b, off, rfl, hc⟩ := H.out.at (by omega)
   have c0 := hc k (by omega)
   have el := klt k hlt
   clear hc klt kat
   go_wp2
   go_roundw
   case rel => exact ⟨k + 1, by omega, by go_num, trivial⟩
   case measure => simp [intOf]; omega
  ·obtain rfl : K = k := by omega
   have REST : Hid (∀ Q : Prop, Q → Q) := fun _ q => q
   have hck := SP.out.le
   have CT : Hid (∀ w : World, (Instr.slice 29 (.slice a n c) none (some (.int .i64 (K : Int))) none).run Try.prog w = .ok (.slice a K c) w) := fun w => run_cut_to 29 rfl 1 (fun w => by kernel_rfl) SP.out K (by omega) w
   have CF : Hid (∀ w : World, (Instr.slice 29 (.slice a n c) (some (.int .i64 (K : Int))) none none).run Try.prog w = .ok (.slice (cutA a c K 1) (n - K) (c - K)) w) := fun w => run_cut_from 29 rfl 1 (fun w => by kernel_rfl) SP.out K kn w
   have ER : Hid (Els wr 1 a n (inF E)) := H.out
   have EC : Hid (Els wr 1 (cutA a c K 1) (n - K) (inF (fun i => E (K + i)))) := Els.cut H.out hck K kn
   by_cases hlt : K < n
   ·have hlt' : (K : Int) < (n : Int) := by omega
    obtain ⟨b, off, ha, hc⟩ := H.out.at (by omega)
    have c0 := hc K hlt
    have hgt := kat hlt
    subst ha
    clear hc kat klt hk
    go_wp2_with fail
    clear c0 hgt
    have I : Hid (InsJ wr wr.drew 3 1 (.slice none 0 0) 0 (inF E) none (inVI x)) := InsJ.start _ _ _ _ _
    have H : Below wr.heap.size wr wr.drew := I.out.hb
    refine wp_region_noPanic ?_
    refine wp_region_held_drew (S := fun w' => Below wr.heap.size wr w') (by kernel_rfl) H (fun _ => ?_)
    generalize wr.drew = y0 at *
    refine wpAnyH_take (i := 1) (v := .slice (some ⟨b, off, none⟩) n c) rfl (by kernel_rfl) (by kernel_rfl) (by kernel_rfl) (fun _ _ _ h => h) (Or.inl ⟨by rfl, ?_⟩) H ?_
    ·intro w' hSw; clear hSw; go_simp
    change wpAnyH _ _ _ _ _ _ _ { tmps := #[_,_,_,_,_,_,_,_,_,_,_,_,_,_,_,_,_,_,_,_,_,_,_,_,_,_,_,_,_,_,_,_], defers := _ } _
    refine wpAnyH_take (i := 2) (v := .int .i64 (K : Int)) rfl (by kernel_rfl) (by kernel_rfl) (by kernel_rfl) (fun _ _ _ h => h) (Or.inl ⟨by rfl, ?_⟩) H ?_
    ·intro w' hSw; clear hSw; go_simp
    change wpAnyH _ _ _ _ _ _ _ { tmps := #[_,_,_,_,_,_,_,_,_,_,_,_,_,_,_,_,_,_,_,_,_,_,_,_,_,_,_,_,_,_,_,_], defers := _ } _
    refine wpAnyH_take (i := 3) (v := .slice (some ⟨b, off, none⟩) K c) rfl (by kernel_rfl) (by kernel_rfl) (by kernel_rfl) (fun _ _ _ h => h) (Or.inl ⟨by rfl, ?_⟩) H ?_
    ·intro w' hSw; have hs := CT.out w'; clear hSw; go_simp
    change wpAnyH _ _ _ _ _ _ _ { tmps := #[_,_,_,_,_,_,_,_,_,_,_,_,_,_,_,_,_,_,_,_,_,_,_,_,_,_,_,_,_,_,_,_], defers := _ } _
    refine wpAnyH_take (i := 5) (v := .int .i64 x) rfl (by kernel_rfl) (by kernel_rfl) (by kernel_rfl) (fun _ _ _ h => h) (Or.inl ⟨by rfl, ?_⟩) H ?_
    ·intro w' hSw; clear hSw; go_simp
    change wpAnyH _ _ _ _ _ _ _ { tmps := #[_,_,_,_,_,_,_,_,_,_,_,_,_,_,_,_,_,_,_,_,_,_,_,_,_,_,_,_,_,_,_,_], defers := _ } _
    refine wpAnyH_take (i := 8) (v := .slice (some ⟨b, off, none⟩) n c) rfl (by kernel_rfl) (by kernel_rfl) (by kernel_rfl) (fun _ _ _ h => h) (Or.inl ⟨by rfl, ?_⟩) H ?_
    ·intro w' hSw; clear hSw; go_simp
    change wpAnyH _ _ _ _ _ _ _ { tmps := #[_,_,_,_,_,_,_,_,_,_,_,_,_,_,_,_,_,_,_,_,_,_,_,_,_,_,_,_,_,_,_,_], defers := _ } _
    refine wpAnyH_take (i := 9) (v := .int .i64 (K : Int)) rfl (by kernel_rfl) (by kernel_rfl) (by kernel_rfl) (fun _ _ _ h => h) (Or.inl ⟨by rfl, ?_⟩) H ?_
    ·intro w' hSw; clear hSw; go_simp
    change wpAnyH _ _ _ _ _ _ _ { tmps := #[_,_,_,_,_,_,_,_,_,_,_,_,_,_,_,_,_,_,_,_,_,_,_,_,_,_,_,_,_,_,_,_], defers := _ } _
    refine wpAnyH_take (i := 10) (v := .slice (cutA (some ⟨b, off, none⟩) c K 1) (n - K) (c - K)) rfl (by kernel_rfl) (by kernel_rfl) (by kernel_rfl) (fun _ _ _ h => h) (Or.inl ⟨by rfl, ?_⟩) H ?_
    ·intro w' hSw; have hs := CF.out w'; clear hSw; go_simp
    change wpAnyH _ _ _ _ _ _ _ { tmps := #[_,_,_,_,_,_,_,_,_,_,_,_,_,_,_,_,_,_,_,_,_,_,_,_,_,_,_,_,_,_,_,_], defers := _ } _
    refine wpAnyH_ready (rs := [0, 6]) (by kernel_rfl) (by simp) ?_
    refine (AllReadyH.cons rfl (fun KK hK => ?_) (AllReadyH.cons rfl (fun KK hK => ?_) AllReadyH.nil))
    ·skip
     replace I : Hid (InsJ wr (y0.alloc (.cells #[] 3)) 3 1 (.slice (some ⟨y0.heap.size, 0, none⟩) 0 0) 0 (inF E) none (inVI x)) := I.out.lit0
     go_simp
     replace H : Below wr.heap.size wr (y0.alloc (.cells #[] 3)) := I.out.hb
     refine hK.out _ _ H (fun _ => ?_)
     clear hK KK
     generalize (y0.alloc (.cells #[] 3)) = y1 at *
     generalize y0.heap.size = gr at *
     change wpAnyH _ _ _ _ _ _ _ { tmps := #[_,_,_,_,_,_,_,_,_,_,_,_,_,_,_,_,_,_,_,_,_,_,_,_,_,_,_,_,_,_,_,_], defers := _ } _
     refine wpAnyH_ready (rs := [4, 6]) (by kernel_rfl) (by simp) ?_
     refine (AllReadyH.cons rfl (fun KK hK => ?_) (AllReadyH.cons rfl (fun KK hK => ?_) AllReadyH.nil))
     ·skip
      obtain ⟨vr, y2, hr, ho, hg, hl⟩ := allIn y1 wr.heap.size _ 0 E (some ⟨b, off, none⟩) K c E I.out.hb.size (by omega) I.out.row ((ER.out.less KN.out).below I.out.hb) SP.out.z
      rw [Nat.zero_add, catE_zero] at ho
      obtain ⟨ara, cra, rfl⟩ := ho.form
      replace I : Hid (InsJ wr y2 3 1 (.slice ara K cra) K (inF E) none (inVI x)) := I.out.grow ho hg hl
      rw [if_pos (by rfl)]
      refine Lib.wp_append_run _ (.tmp 20) (.tmp 23) 29 29 rfl (.slice (some ⟨gr, 0, none⟩) 0 0) (.slice (some ⟨b, off, none⟩) K c) rfl rfl _ _ (hr _) ?_
      replace H : Below wr.heap.size wr y2 := I.out.hb
      refine hK.out _ _ H (fun _ => ?_)
      clear hK KK hr ho hg hl
      change wpAnyH _ _ _ _ _ _ _ { tmps := #[_,_,_,_,_,_,_,_,_,_,_,_,_,_,_,_,_,_,_,_,_,_,_,_,_,_,_,_,_,_,_,_], defers := _ } _
      refine wpAnyH_ready (rs := [6]) (by kernel_rfl) (by simp) ?_
      refine (AllReadyH.cons rfl (fun KK hK => ?_) AllReadyH.nil)
      replace I : Hid (InsJ wr (y2.alloc (.cells #[.int .i64 x] 3)) 3 1 (.slice ara K cra) K (inF E) (some y2.heap.size) (inVI x)) := I.out.lit1 #[.int .i64 x] (fun j hj => (by obtain rfl : j = 0 := (by omega); rfl))
      go_simp
      replace H : Below wr.heap.size wr (y2.alloc (.cells #[.int .i64 x] 3)) := I.out.hb
      refine hK.out _ _ H (fun _ => ?_)
      clear hK KK
      generalize (y2.alloc (.cells #[.int .i64 x] 3)) = y3 at *
      generalize y2.heap.size = gl at *
      change wpAnyH _ _ _ _ _ _ _ { tmps := #[_,_,_,_,_,_,_,_,_,_,_,_,_,_,_,_,_,_,_,_,_,_,_,_,_,_,_,_,_,_,_,_], defers := _ } _
      refine wpAnyH_ready (rs := [7]) (by kernel_rfl) (by simp) ?_
      refine (AllReadyH.cons rfl (fun KK hK => ?_) AllReadyH.nil)
      obtain ⟨vr, y4, hr, ho, hg, hl⟩ := appInI y3 wr.heap.size _ K gl E x I.out.hb.size (by omega) I.out.row (I.out.lit _ rfl).1
      obtain ⟨arb, crb, rfl⟩ := ho.form
      replace I : Hid (InsJ wr y4 3 1 (.slice arb (K + 1) crb) (K + 1) (inF (updE E K x)) (some gl) (inVI x)) := I.out.grow ho hg hl
      rw [if_pos (by rfl)]
      refine Lib.wp_append_run _ (.tmp 24) (.tmp 26) 29 29 rfl (.slice ara K cra) (.slice (some ⟨gl, 0, none⟩) 1 1) rfl rfl _ _ (hr _) ?_
      replace H : Below wr.heap.size wr y4 := I.out.hb
      refine hK.out _ _ H (fun _ => ?_)
      clear hK KK hr ho hg hl
      change wpAnyH _ _ _ _ _ _ _ { tmps := #[_,_,_,_,_,_,_,_,_,_,_,_,_,_,_,_,_,_,_,_,_,_,_,_,_,_,_,_,_,_,_,_], defers := _ } _
      refine wpAnyH_ready (rs := [11]) (by kernel_rfl) (by simp) ?_
      refine (AllReadyH.cons rfl (fun KK hK => ?_) AllReadyH.nil)
      obtain ⟨vr, y5, hr, ho, hg, hl⟩ := allIn y4 wr.heap.size _ (K + 1) (updE E K x) (cutA (some ⟨b, off, none⟩) c K 1) (n - K) (c - K) (fun i => E (K + i)) I.out.hb.size (by omega) I.out.row (EC.out.below I.out.hb) (cutA_zero SP.out _ _)
      rw [← ins_cat, show K + 1 + (n - K) = n + 1 by omega] at ho
      obtain ⟨arc, crc, rfl⟩ := ho.form
      replace I : Hid (InsJ wr y5 3 1 (.slice arc (n + 1) crc) (n + 1) (inF (insE E K x)) (some gl) (inVI x)) := I.out.grow ho hg hl
      rw [if_pos (by rfl)]
      refine Lib.wp_append_run _ (.tmp 27) (.tmp 30) 29 29 rfl (.slice arb (K + 1) crb) (.slice (cutA (some ⟨b, off, none⟩) c K 1) (n - K) (c - K)) rfl rfl _ _ (hr _) ?_
      replace H : Below wr.heap.size wr y5 := I.out.hb
      refine hK.out _ _ H (fun _ => ?_)
      clear hK KK hr ho hg hl
      change wpAnyH _ _ _ _ _ _ _ { tmps := #[_,_,_,_,_,_,_,_,_,_,_,_,_,_,_,_,_,_,_,_,_,_,_,_,_,_,_,_,_,_,_,_], defers := _ } _
      refine wpAnyH_take (i := 12) (v := .slice arc (n + 1) crc) rfl (by kernel_rfl) (by kernel_rfl) (by kernel_rfl) (fun _ _ _ h => h) (Or.inl ⟨by rfl, ?_⟩) H ?_
      ·intro w' hSw; clear hSw; go_simp
      change wpAnyH _ _ _ _ _ _ _ { tmps := #[_,_,_,_,_,_,_,_,_,_,_,_,_,_,_,_,_,_,_,_,_,_,_,_,_,_,_,_,_,_,_,_], defers := _ } _
      refine wpAnyH_done (by kernel_rfl) ?_ _
      refine NoPanic.normal ?_
      have Q : Hid ((∃ b d, Ending.returned (.slice arc (n + 1) crc) = .returned (.slice b (n + 1) d) ∧ IE y5 wr.heap.size (.slice b (n + 1) d) (n + 1) (insE E K x)) ∧ Below wr.heap.size wr y5) := ⟨⟨_, _, rfl, I.out.row⟩, I.out.hb⟩
      clear I H ER EC CT CF SP REST
      go_wp2
      go_ret
      exact Q.out
     ·skip
      replace I : Hid (InsJ wr (y1.alloc (.cells #[.int .i64 x] 3)) 3 1 (.slice (some ⟨gr, 0, none⟩) 0 0) 0 (inF E) (some y1.heap.size) (inVI x)) := I.out.lit1 #[.int .i64 x] (fun j hj => (by obtain rfl : j = 0 := (by omega); rfl))
      go_simp
      replace H : Below wr.heap.size wr (y1.alloc (.cells #[.int .i64 x] 3)) := I.out.hb
      refine hK.out _ _ H (fun _ => ?_)
      clear hK KK
      generalize (y1.alloc (.cells #[.int .i64 x] 3)) = y2 at *
      generalize y1.heap.size = gl at *
      change wpAnyH _ _ _ _ _ _ _ { tmps := #[_,_,_,_,_,_,_,_,_,_,_,_,_,_,_,_,_,_,_,_,_,_,_,_,_,_,_,_,_,_,_,_], defers := _ } _
      refine wpAnyH_ready (rs := [4]) (by kernel_rfl) (by simp) ?_
      refine (AllReadyH.cons rfl (fun KK hK => ?_) AllReadyH.nil)
      obtain ⟨vr, y3, hr, ho, hg, hl⟩ := allIn y2 wr.heap.size _ 0 E (some ⟨b, off, none⟩) K c E I.out.hb.size (by omega) I.out.row ((ER.out.less KN.out).below I.out.hb) SP.out.z
      rw [Nat.zero_add, catE_zero] at ho
      obtain ⟨ara, cra, rfl⟩ := ho.form
      replace I : Hid (InsJ wr y3 3 1 (.slice ara K cra) K (inF E) (some gl) (inVI x)) := I.out.grow ho hg hl
      rw [if_pos (by rfl)]
      refine Lib.wp_append_run _ (.tmp 20) (.tmp 23) 29 29 rfl (.slice (some ⟨gr, 0, none⟩) 0 0) (.slice (some ⟨b, off, none⟩) K c) rfl rfl _ _ (hr _) ?_
      replace H : Below wr.heap.size wr y3 := I.out.hb
      refine hK.out _ _ H (fun _ => ?_)
      clear hK KK hr ho hg hl
      change wpAnyH _ _ _ _ _ _ _ { tmps := #[_,_,_,_,_,_,_,_,_,_,_,_,_,_,_,_,_,_,_,_,_,_,_,_,_,_,_,_,_,_,_,_], defers := _ } _
      refine wpAnyH_ready (rs := [7]) (by kernel_rfl) (by simp) ?_
      refine (AllReadyH.cons rfl (fun KK hK => ?_) AllReadyH.nil)
      obtain ⟨vr, y4, hr, ho, hg, hl⟩ := appInI y3 wr.heap.size _ K gl E x I.out.hb.size (by omega) I.out.row (I.out.lit _ rfl).1
      obtain ⟨arb, crb, rfl⟩ := ho.form
      replace I : Hid (InsJ wr y4 3 1 (.slice arb (K + 1) crb) (K + 1) (inF (updE E K x)) (some gl) (inVI x)) := I.out.grow ho hg hl
      rw [if_pos (by rfl)]
      refine Lib.wp_append_run _ (.tmp 24) (.tmp 26) 29 29 rfl (.slice ara K cra) (.slice (some ⟨gl, 0, none⟩) 1 1) rfl rfl _ _ (hr _) ?_
      replace H : Below wr.heap.size wr y4 := I.out.hb
      refine hK.out _ _ H (fun _ => ?_)
      clear hK KK hr ho hg hl
      change wpAnyH _ _ _ _ _ _ _ { tmps := #[_,_,_,_,_,_,_,_,_,_,_,_,_,_,_,_,_,_,_,_,_,_,_,_,_,_,_,_,_,_,_,_], defers := _ } _
      refine wpAnyH_ready (rs := [11]) (by kernel_rfl) (by simp) ?_
      refine (AllReadyH.cons rfl (fun KK hK => ?_) AllReadyH.nil)
      obtain ⟨vr, y5, hr, ho, hg, hl⟩ := allIn y4 wr.heap.size _ (K + 1) (updE E K x) (cutA (some ⟨b, off, none⟩) c K 1) (n - K) (c - K) (fun i => E (K + i)) I.out.hb.size (by omega) I.out.row (EC.out.below I.out.hb) (cutA_zero SP.out _ _)
      rw [← ins_cat, show K + 1 + (n - K) = n + 1 by omega] at ho
      obtain ⟨arc, crc, rfl⟩ := ho.form
      replace I : Hid (InsJ wr y5 3 1 (.slice arc (n + 1) crc) (n + 1) (inF (insE E K x)) (some gl) (inVI x)) := I.out.grow ho hg hl
      rw [if_pos (by rfl)]
      refine Lib.wp_append_run _ (.tmp 27) (.tmp 30) 29 29 rfl (.slice arb (K + 1) crb) (.slice (cutA (some ⟨b, off, none⟩) c K 1) (n - K) (c - K)) rfl rfl _ _ (hr _) ?_
      replace H : Below wr.heap.size wr y5 := I.out.hb
      refine hK.out _ _ H (fun _ => ?_)
      clear hK KK hr ho hg hl
      change wpAnyH _ _ _ _ _ _ _ { tmps := #[_,_,_,_,_,_,_,_,_,_,_,_,_,_,_,_,_,_,_,_,_,_,_,_,_,_,_,_,_,_,_,_], defers := _ } _
      refine wpAnyH_take (i := 12) (v := .slice arc (n + 1) crc) rfl (by kernel_rfl) (by kernel_rfl) (by kernel_rfl) (fun _ _ _ h => h) (Or.inl ⟨by rfl, ?_⟩) H ?_
      ·intro w' hSw; clear hSw; go_simp
      change wpAnyH _ _ _ _ _ _ _ { tmps := #[_,_,_,_,_,_,_,_,_,_,_,_,_,_,_,_,_,_,_,_,_,_,_,_,_,_,_,_,_,_,_,_], defers := _ } _
      refine wpAnyH_done (by kernel_rfl) ?_ _
      refine NoPanic.normal ?_
      have Q : Hid ((∃ b d, Ending.returned (.slice arc (n + 1) crc) = .returned (.slice b (n + 1) d) ∧ IE y5 wr.heap.size (.slice b (n + 1) d) (n + 1) (insE E K x)) ∧ Below wr.heap.size wr y5) := ⟨⟨_, _, rfl, I.out.row⟩, I.out.hb⟩
      clear I H ER EC CT CF SP REST
      go_wp2
      go_ret
      exact Q.out
    ·skip
     replace I : Hid (InsJ wr (y0.alloc (.cells #[.int .i64 x] 3)) 3 1 (.slice none 0 0) 0 (inF E) (some y0.heap.size) (inVI x)) := I.out.lit1 #[.int .i64 x] (fun j hj => (by obtain rfl : j = 0 := (by omega); rfl))
     go_simp
     replace H : Below wr.heap.size wr (y0.alloc (.cells #[.int .i64 x] 3)) := I.out.hb
     refine hK.out _ _ H (fun _ => ?_)
     clear hK KK
     generalize (y0.alloc (.cells #[.int .i64 x] 3)) = y1 at *
     generalize y0.heap.size = gl at *
     change wpAnyH _ _ _ _ _ _ _ { tmps := #[_,_,_,_,_,_,_,_,_,_,_,_,_,_,_,_,_,_,_,_,_,_,_,_,_,_,_,_,_,_,_,_], defers := _ } _
     refine wpAnyH_ready (rs := [0]) (by kernel_rfl) (by simp) ?_
     refine (AllReadyH.cons rfl (fun KK hK => ?_) AllReadyH.nil)
     replace I : Hid (InsJ wr (y1.alloc (.cells #[] 3)) 3 1 (.slice (some ⟨y1.heap.size, 0, none⟩) 0 0) 0 (inF E) (some gl) (inVI x)) := I.out.lit0
     go_simp
     replace H : Below wr.heap.size wr (y1.alloc (.cells #[] 3)) := I.out.hb
     refine hK.out _ _ H (fun _ => ?_)
     clear hK KK
     generalize (y1.alloc (.cells #[] 3)) = y2 at *
     generalize y1.heap.size = gr at *
     change wpAnyH _ _ _ _ _ _ _ { tmps := #[_,_,_,_,_,_,_,_,_,_,_,_,_,_,_,_,_,_,_,_,_,_,_,_,_,_,_,_,_,_,_,_], defers := _ } _
     refine wpAnyH_ready (rs := [4]) (by kernel_rfl) (by simp) ?_
     refine (AllReadyH.cons rfl (fun KK hK => ?_) AllReadyH.nil)
     obtain ⟨vr, y3, hr, ho, hg, hl⟩ := allIn y2 wr.heap.size _ 0 E (some ⟨b, off, none⟩) K c E I.out.hb.size (by omega) I.out.row ((ER.out.less KN.out).below I.out.hb) SP.out.z
     rw [Nat.zero_add, catE_zero] at ho
     obtain ⟨ara, cra, rfl⟩ := ho.form
     replace I : Hid (InsJ wr y3 3 1 (.slice ara K cra) K (inF E) (some gl) (inVI x)) := I.out.grow ho hg hl
     rw [if_pos (by rfl)]
     refine Lib.wp_append_run _ (.tmp 20) (.tmp 23) 29 29 rfl (.slice (some ⟨gr, 0, none⟩) 0 0) (.slice (some ⟨b, off, none⟩) K c) rfl rfl _ _ (hr _) ?_
     replace H : Below wr.heap.size wr y3 := I.out.hb
     refine hK.out _ _ H (fun _ => ?_)
     clear hK KK hr ho hg hl
     change wpAnyH _ _ _ _ _ _ _ { tmps := #[_,_,_,_,_,_,_,_,_,_,_,_,_,_,_,_,_,_,_,_,_,_,_,_,_,_,_,_,_,_,_,_], defers := _ } _
     refine wpAnyH_ready (rs := [7]) (by kernel_rfl) (by simp) ?_
     refine (AllReadyH.cons rfl (fun KK hK => ?_) AllReadyH.nil)
     obtain ⟨vr, y4, hr, ho, hg, hl⟩ := appInI y3 wr.heap.size _ K gl E x I.out.hb.size (by omega) I.out.row (I.out.lit _ rfl).1
     obtain ⟨arb, crb, rfl⟩ := ho.form
     replace I : Hid (InsJ wr y4 3 1 (.slice arb (K + 1) crb) (K + 1) (inF (updE E K x)) (some gl) (inVI x)) := I.out.grow ho hg hl
     rw [if_pos (by rfl)]
     refine Lib.wp_append_run _ (.tmp 24) (.tmp 26) 29 29 rfl (.slice ara K cra) (.slice (some ⟨gl, 0, none⟩) 1 1) rfl rfl _ _ (hr _) ?_
     replace H : Below wr.heap.size wr y4 := I.out.hb
     refine hK.out _ _ H (fun _ => ?_)
     clear hK KK hr ho hg hl
     change wpAnyH _ _ _ _ _ _ _ { tmps := #[_,_,_,_,_,_,_,_,_,_,_,_,_,_,_,_,_,_,_,_,_,_,_,_,_,_,_,_,_,_,_,_], defers := _ } _
     refine wpAnyH_ready (rs := [11]) (by kernel_rfl) (by simp) ?_
     refine (AllReadyH.cons rfl (fun KK hK => ?_) AllReadyH.nil)
     obtain ⟨vr, y5, hr, ho, hg, hl⟩ := allIn y4 wr.heap.size _ (K + 1) (updE E K x) (cutA (some ⟨b, off, none⟩) c K 1) (n - K) (c - K) (fun i => E (K + i)) I.out.hb.size (by omega) I.out.row (EC.out.below I.out.hb) (cutA_zero SP.out _ _)
     rw [← ins_cat, show K + 1 + (n - K) = n + 1 by omega] at ho
     obtain ⟨arc, crc, rfl⟩ := ho.form
     replace I : Hid (InsJ wr y5 3 1 (.slice arc (n + 1) crc) (n + 1) (inF (insE E K x)) (some gl) (inVI x)) := I.out.grow ho hg hl
     rw [if_pos (by rfl)]
     refine Lib.wp_append_run _ (.tmp 27) (.tmp 30) 29 29 rfl (.slice arb (K + 1) crb) (.slice (cutA (some ⟨b, off, none⟩) c K 1) (n - K) (c - K)) rfl rfl _ _ (hr _) ?_
     replace H : Below wr.heap.size wr y5 := I.out.hb
     refine hK.out _ _ H (fun _ => ?_)
     clear hK KK hr ho hg hl
     change wpAnyH _ _ _ _ _ _ _ { tmps := #[_,_,_,_,_,_,_,_,_,_,_,_,_,_,_,_,_,_,_,_,_,_,_,_,_,_,_,_,_,_,_,_], defers := _ } _
     refine wpAnyH_take (i := 12) (v := .slice arc (n + 1) crc) rfl (by kernel_rfl) (by kernel_rfl) (by kernel_rfl) (fun _ _ _ h => h) (Or.inl ⟨by rfl, ?_⟩) H ?_
     ·intro w' hSw; clear hSw; go_simp
     change wpAnyH _ _ _ _ _ _ _ { tmps := #[_,_,_,_,_,_,_,_,_,_,_,_,_,_,_,_,_,_,_,_,_,_,_,_,_,_,_,_,_,_,_,_], defers := _ } _
     refine wpAnyH_done (by kernel_rfl) ?_ _
     refine NoPanic.normal ?_
     have Q : Hid ((∃ b d, Ending.returned (.slice arc (n + 1) crc) = .returned (.slice b (n + 1) d) ∧ IE y5 wr.heap.size (.slice b (n + 1) d) (n + 1) (insE E K x)) ∧ Below wr.heap.size wr y5) := ⟨⟨_, _, rfl, I.out.row⟩, I.out.hb⟩
     clear I H ER EC CT CF SP REST
     go_wp2
     go_ret
     exact Q.out
   ·have hlt' : ¬ (K : Int) < (n : Int) := by omega
    clear kat klt hk
    go_wp2_with fail
    have I : Hid (InsJ wr wr.drew 3 1 (.slice none 0 0) 0 (inF E) none (inVI x)) := InsJ.start _ _ _ _ _
    have H : Below wr.heap.size wr wr.drew := I.out.hb
    refine wp_region_noPanic ?_
    refine wp_region_held_drew (S := fun w' => Below wr.heap.size wr w') (by kernel_rfl) H (fun _ => ?_)
    generalize wr.drew = y0 at *
    refine wpAnyH_take (i := 1) (v := .slice a n c) rfl (by kernel_rfl) (by kernel_rfl) (by kernel_rfl) (fun _ _ _ h => h) (Or.inl ⟨by rfl, ?_⟩) H ?_
    ·intro w' hSw; clear hSw; go_simp
    change wpAnyH _ _ _ _ _ _ _ { tmps := #[_,_,_,_,_,_,_,_,_,_,_,_,_,_,_,_,_,_,_,_,_,_,_,_,_,_,_,_,_,_,_,_], defers := _ } _
    refine wpAnyH_take (i := 2) (v := .int .i64 (K : Int)) rfl (by kernel_rfl) (by kernel_rfl) (by kernel_rfl) (fun _ _ _ h => h) (Or.inl ⟨by rfl, ?_⟩) H ?_
    ·intro w' hSw; clear hSw; go_simp
    change wpAnyH _ _ _ _ _ _ _ { tmps := #[_,_,_,_,_,_,_,_,_,_,_,_,_,_,_,_,_,_,_,_,_,_,_,_,_,_,_,_,_,_,_,_], defers := _ } _
    refine wpAnyH_take (i := 3) (v := .slice a K c) rfl (by kernel_rfl) (by kernel_rfl) (by kernel_rfl) (fun _ _ _ h => h) (Or.inl ⟨by rfl, ?_⟩) H ?_
    ·intro w' hSw; have hs := CT.out w'; clear hSw; go_simp
    change wpAnyH _ _ _ _ _ _ _ { tmps := #[_,_,_,_,_,_,_,_,_,_,_,_,_,_,_,_,_,_,_,_,_,_,_,_,_,_,_,_,_,_,_,_], defers := _ } _
    refine wpAnyH_take (i := 5) (v := .int .i64 x) rfl (by kernel_rfl) (by kernel_rfl) (by kernel_rfl) (fun _ _ _ h => h) (Or.inl ⟨by rfl, ?_⟩) H ?_
    ·intro w' hSw; clear hSw; go_simp
    change wpAnyH _ _ _ _ _ _ _ { tmps := #[_,_,_,_,_,_,_,_,_,_,_,_,_,_,_,_,_,_,_,_,_,_,_,_,_,_,_,_,_,_,_,_], defers := _ } _
    refine wpAnyH_take (i := 8) (v := .slice a n c) rfl (by kernel_rfl) (by kernel_rfl) (by kernel_rfl) (fun _ _ _ h => h) (Or.inl ⟨by rfl, ?_⟩) H ?_
    ·intro w' hSw; clear hSw; go_simp
    change wpAnyH _ _ _ _ _ _ _ { tmps := #[_,_,_,_,_,_,_,_,_,_,_,_,_,_,_,_,_,_,_,_,_,_,_,_,_,_,_,_,_,_,_,_], defers := _ } _
    refine wpAnyH_take (i := 9) (v := .int .i64 (K : Int)) rfl (by kernel_rfl) (by kernel_rfl) (by kernel_rfl) (fun _ _ _ h => h) (Or.inl ⟨by rfl, ?_⟩) H ?_
    ·intro w' hSw; clear hSw; go_simp
    change wpAnyH _ _ _ _ _ _ _ { tmps := #[_,_,_,_,_,_,_,_,_,_,_,_,_,_,_,_,_,_,_,_,_,_,_,_,_,_,_,_,_,_,_,_], defers := _ } _
    refine wpAnyH_take (i := 10) (v := .slice (cutA a c K 1) (n - K) (c - K)) rfl (by kernel_rfl) (by kernel_rfl) (by kernel_rfl) (fun _ _ _ h => h) (Or.inl ⟨by rfl, ?_⟩) H ?_
    ·intro w' hSw; have hs := CF.out w'; clear hSw; go_simp
    change wpAnyH _ _ _ _ _ _ _ { tmps := #[_,_,_,_,_,_,_,_,_,_,_,_,_,_,_,_,_,_,_,_,_,_,_,_,_,_,_,_,_,_,_,_], defers := _ } _
    refine wpAnyH_ready (rs := [0, 6]) (by kernel_rfl) (by simp) ?_
    refine (AllReadyH.cons rfl (fun KK hK => ?_) (AllReadyH.cons rfl (fun KK hK => ?_) AllReadyH.nil))
    ·skip
     replace I : Hid (InsJ wr (y0.alloc (.cells #[] 3)) 3 1 (.slice (some ⟨y0.heap.size, 0, none⟩) 0 0) 0 (inF E) none (inVI x)) := I.out.lit0
     go_simp
     replace H : Below wr.heap.size wr (y0.alloc (.cells #[] 3)) := I.out.hb
     refine hK.out _ _ H (fun _ => ?_)
     clear hK KK
     generalize (y0.alloc (.cells #[] 3)) = y1 at *
     generalize y0.heap.size = gr at *
     change wpAnyH _ _ _ _ _ _ _ { tmps := #[_,_,_,_,_,_,_,_,_,_,_,_,_,_,_,_,_,_,_,_,_,_,_,_,_,_,_,_,_,_,_,_], defers := _ } _
     refine wpAnyH_ready (rs := [4, 6]) (by kernel_rfl) (by simp) ?_
     refine (AllReadyH.cons rfl (fun KK hK => ?_) (AllReadyH.cons rfl (fun KK hK => ?_) AllReadyH.nil))
     ·skip
      obtain ⟨vr, y2, hr, ho, hg, hl⟩ := allIn y1 wr.heap.size _ 0 E a K c E I.out.hb.size (by omega) I.out.row ((ER.out.less KN.out).below I.out.hb) SP.out.z
      rw [Nat.zero_add, catE_zero] at ho
      obtain ⟨ara, cra, rfl⟩ := ho.form
      replace I : Hid (InsJ wr y2 3 1 (.slice ara K cra) K (inF E) none (inVI x)) := I.out.grow ho hg hl
      rw [if_pos (by rfl)]
      refine Lib.wp_append_run _ (.tmp 20) (.tmp 23) 29 29 rfl (.slice (some ⟨gr, 0, none⟩) 0 0) (.slice a K c) rfl rfl _ _ (hr _) ?_
      replace H : Below wr.heap.size wr y2 := I.out.hb
      refine hK.out _ _ H (fun _ => ?_)
      clear hK KK hr ho hg hl
      change wpAnyH _ _ _ _ _ _ _ { tmps := #[_,_,_,_,_,_,_,_,_,_,_,_,_,_,_,_,_,_,_,_,_,_,_,_,_,_,_,_,_,_,_,_], defers := _ } _
      refine wpAnyH_ready (rs := [6]) (by kernel_rfl) (by simp) ?_
      refine (AllReadyH.cons rfl (fun KK hK => ?_) AllReadyH.nil)
      replace I : Hid (InsJ wr (y2.alloc (.cells #[.int .i64 x] 3)) 3 1 (.slice ara K cra) K (inF E) (some y2.heap.size) (inVI x)) := I.out.lit1 #[.int .i64 x] (fun j hj => (by obtain rfl : j = 0 := (by omega); rfl))
      go_simp
      replace H : Below wr.heap.size wr (y2.alloc (.cells #[.int .i64 x] 3)) := I.out.hb
      refine hK.out _ _ H (fun _ => ?_)
      clear hK KK
      generalize (y2.alloc (.cells #[.int .i64 x] 3)) = y3 at *
      generalize y2.heap.size = gl at *
      change wpAnyH _ _ _ _ _ _ _ { tmps := #[_,_,_,_,_,_,_,_,_,_,_,_,_,_,_,_,_,_,_,_,_,_,_,_,_,_,_,_,_,_,_,_], defers := _ } _
      refine wpAnyH_ready (rs := [7]) (by kernel_rfl) (by simp) ?_
      refine (AllReadyH.cons rfl (fun KK hK => ?_) AllReadyH.nil)
      obtain ⟨vr, y4, hr, ho, hg, hl⟩ := appInI y3 wr.heap.size _ K gl E x I.out.hb.size (by omega) I.out.row (I.out.lit _ rfl).1
      obtain ⟨arb, crb, rfl⟩ := ho.form
      replace I : Hid (InsJ wr y4 3 1 (.slice arb (K + 1) crb) (K + 1) (inF (updE E K x)) (some gl) (inVI x)) := I.out.grow ho hg hl
      rw [if_pos (by rfl)]
      refine Lib.wp_append_run _ (.tmp 24) (.tmp 26) 29 29 rfl (.slice ara K cra) (.slice (some ⟨gl, 0, none⟩) 1 1) rfl rfl _ _ (hr _) ?_
      replace H : Below wr.heap.size wr y4 := I.out.hb
      refine hK.out _ _ H (fun _ => ?_)
      clear hK KK hr ho hg hl
      change wpAnyH _ _ _ _ _ _ _ { tmps := #[_,_,_,_,_,_,_,_,_,_,_,_,_,_,_,_,_,_,_,_,_,_,_,_,_,_,_,_,_,_,_,_], defers := _ } _
      refine wpAnyH_ready (rs := [11]) (by kernel_rfl) (by simp) ?_
      refine (AllReadyH.cons rfl (fun KK hK => ?_) AllReadyH.nil)
      obtain ⟨vr, y5, hr, ho, hg, hl⟩ := allIn y4 wr.heap.size _ (K + 1) (updE E K x) (cutA a c K 1) (n - K) (c - K) (fun i => E (K + i)) I.out.hb.size (by omega) I.out.row (EC.out.below I.out.hb) (cutA_zero SP.out _ _)
      rw [← ins_cat, show K + 1 + (n - K) = n + 1 by omega] at ho
      obtain ⟨arc, crc, rfl⟩ := ho.form
      replace I : Hid (InsJ wr y5 3 1 (.slice arc (n + 1) crc) (n + 1) (inF (insE E K x)) (some gl) (inVI x)) := I.out.grow ho hg hl
      rw [if_pos (by rfl)]
      refine Lib.wp_append_run _ (.tmp 27) (.tmp 30) 29 29 rfl (.slice arb (K + 1) crb) (.slice (cutA a c K 1) (n - K) (c - K)) rfl rfl _ _ (hr _) ?_
      replace H : Below wr.heap.size wr y5 := I.out.hb
      refine hK.out _ _ H (fun _ => ?_)
      clear hK KK hr ho hg hl
      change wpAnyH _ _ _ _ _ _ _ { tmps := #[_,_,_,_,_,_,_,_,_,_,_,_,_,_,_,_,_,_,_,_,_,_,_,_,_,_,_,_,_,_,_,_], defers := _ } _
      refine wpAnyH_take (i := 12) (v := .slice arc (n + 1) crc) rfl (by kernel_rfl) (by kernel_rfl) (by kernel_rfl) (fun _ _ _ h => h) (Or.inl ⟨by rfl, ?_⟩) H ?_
      ·intro w' hSw; clear hSw; go_simp
      change wpAnyH _ _ _ _ _ _ _ { tmps := #[_,_,_,_,_,_,_,_,_,_,_,_,_,_,_,_,_,_,_,_,_,_,_,_,_,_,_,_,_,_,_,_], defers := _ } _
      refine wpAnyH_done (by kernel_rfl) ?_ _
      refine NoPanic.normal ?_
      have Q : Hid ((∃ b d, Ending.returned (.slice arc (n + 1) crc) = .returned (.slice b (n + 1) d) ∧ IE y5 wr.heap.size (.slice b (n + 1) d) (n + 1) (insE E K x)) ∧ Below wr.heap.size wr y5) := ⟨⟨_, _, rfl, I.out.row⟩, I.out.hb⟩
      clear I H ER EC CT CF SP REST
      go_wp2
      go_ret
      exact Q.out
     ·skip
      replace I : Hid (InsJ wr (y1.alloc (.cells #[.int .i64 x] 3)) 3 1 (.slice (some ⟨gr, 0, none⟩) 0 0) 0 (inF E) (some y1.heap.size) (inVI x)) := I.out.lit1 #[.int .i64 x] (fun j hj => (by obtain rfl : j = 0 := (by omega); rfl))
      go_simp
      replace H : Below wr.heap.size wr (y1.alloc (.cells #[.int .i64 x] 3)) := I.out.hb
      refine hK.out _ _ H (fun _ => ?_)
      clear hK KK
      generalize (y1.alloc (.cells #[.int .i64 x] 3)) = y2 at *
      generalize y1.heap.size = gl at *
      change wpAnyH _ _ _ _ _ _ _ { tmps := #[_,_,_,_,_,_,_,_,_,_,_,_,_,_,_,_,_,_,_,_,_,_,_,_,_,_,_,_,_,_,_,_], defers := _ } _
      refine wpAnyH_ready (rs := [4]) (by kernel_rfl) (by simp) ?_
      refine (AllReadyH.cons rfl (fun KK hK => ?_) AllReadyH.nil)
      obtain ⟨vr, y3, hr, ho, hg, hl⟩ := allIn y2 wr.heap.size _ 0 E a K c E I.out.hb.size (by omega) I.out.row ((ER.out.less KN.out).below I.out.hb) SP.out.z
      rw [Nat.zero_add, catE_zero] at ho
      obtain ⟨ara, cra, rfl⟩ := ho.form
      replace I : Hid (InsJ wr y3 3 1 (.slice ara K cra) K (inF E) (some gl) (inVI x)) := I.out.grow ho hg hl
      rw [if_pos (by rfl)]
      refine Lib.wp_append_run _ (.tmp 20) (.tmp 23) 29 29 rfl (.slice (some ⟨gr, 0, none⟩) 0 0) (.slice a K c) rfl rfl _ _ (hr _) ?_
      replace H : Below wr.heap.size wr y3 := I.out.hb
      refine hK.out _ _ H (fun _ => ?_)
      clear hK KK hr ho hg hl
      change wpAnyH _ _ _ _ _ _ _ { tmps := #[_,_,_,_,_,_,_,_,_,_,_,_,_,_,_,_,_,_,_,_,_,_,_,_,_,_,_,_,_,_,_,_], defers := _ } _
      refine wpAnyH_ready (rs := [7]) (by kernel_rfl) (by simp) ?_
      refine (AllReadyH.cons rfl (fun KK hK => ?_) AllReadyH.nil)
      obtain ⟨vr, y4, hr, ho, hg, hl⟩ := appInI y3 wr.heap.size _ K gl E x I.out.hb.size (by omega) I.out.row (I.out.lit _ rfl).1
      obtain ⟨arb, crb, rfl⟩ := ho.form
      replace I : Hid (InsJ wr y4 3 1 (.slice arb (K + 1) crb) (K + 1) (inF (updE E K x)) (some gl) (inVI x)) := I.out.grow ho hg hl
      rw [if_pos (by rfl)]
      refine Lib.wp_append_run _ (.tmp 24) (.tmp 26) 29 29 rfl (.slice ara K cra) (.slice (some ⟨gl, 0, none⟩) 1 1) rfl rfl _ _ (hr _) ?_
      replace H : Below wr.heap.size wr y4 := I.out.hb
      refine hK.out _ _ H (fun _ => ?_)
      clear hK KK hr ho hg hl
      change wpAnyH _ _ _ _ _ _ _ { tmps := #[_,_,_,_,_,_,_,_,_,_,_,_,_,_,_,_,_,_,_,_,_,_,_,_,_,_,_,_,_,_,_,_], defers := _ } _
      refine wpAnyH_ready (rs := [11]) (by kernel_rfl) (by simp) ?_
      refine (AllReadyH.cons rfl (fun KK hK => ?_) AllReadyH.nil)
      obtain ⟨vr, y5, hr, ho, hg, hl⟩ := allIn y4 wr.heap.size _ (K + 1) (updE E K x) (cutA a c K 1) (n - K) (c - K) (fun i => E (K + i)) I.out.hb.size (by omega) I.out.row (EC.out.below I.out.hb) (cutA_zero SP.out _ _)
      rw [← ins_cat, show K + 1 + (n - K) = n + 1 by omega] at ho
      obtain ⟨arc, crc, rfl⟩ := ho.form
      replace I : Hid (InsJ wr y5 3 1 (.slice arc (n + 1) crc) (n + 1) (inF (insE E K x)) (some gl) (inVI x)) := I.out.grow ho hg hl
      rw [if_pos (by rfl)]
      refine Lib.wp_append_run _ (.tmp 27) (.tmp 30) 29 29 rfl (.slice arb (K + 1) crb) (.slice (cutA a c K 1) (n - K) (c - K)) rfl rfl _ _ (hr _) ?_
      replace H : Below wr.heap.size wr y5 := I.out.hb
      refine hK.out _ _ H (fun _ => ?_)
      clear hK KK hr ho hg hl
      change wpAnyH _ _ _ _ _ _ _ { tmps := #[_,_,_,_,_,_,_,_,_,_,_,_,_,_,_,_,_,_,_,_,_,_,_,_,_,_,_,_,_,_,_,_], defers := _ } _
      refine wpAnyH_take (i := 12) (v := .slice arc (n + 1) crc) rfl (by kernel_rfl) (by kernel_rfl) (by kernel_rfl) (fun _ _ _ h => h) (Or.inl ⟨by rfl, ?_⟩) H ?_
      ·intro w' hSw; clear hSw; go_simp
      change wpAnyH _ _ _ _ _ _ _ { tmps := #[_,_,_,_,_,_,_,_,_,_,_,_,_,_,_,_,_,_,_,_,_,_,_,_,_,_,_,_,_,_,_,_], defers := _ } _
      refine wpAnyH_done (by kernel_rfl) ?_ _
      refine NoPanic.normal ?_
      have Q : Hid ((∃ b d, Ending.returned (.slice arc (n + 1) crc) = .returned (.slice b (n + 1) d) ∧ IE y5 wr.heap.size (.slice b (n + 1) d) (n + 1) (insE E K x)) ∧ Below wr.heap.size wr y5) := ⟨⟨_, _, rfl, I.out.row⟩, I.out.hb⟩
      clear I H ER EC CT CF SP REST
      go_wp2
      go_ret
      exact Q.out
    ·skip
     replace I : Hid (InsJ wr (y0.alloc (.cells #[.int .i64 x] 3)) 3 1 (.slice none 0 0) 0 (inF E) (some y0.heap.size) (inVI x)) := I.out.lit1 #[.int .i64 x] (fun j hj => (by obtain rfl : j = 0 := (by omega); rfl))
     go_simp
     replace H : Below wr.heap.size wr (y0.alloc (.cells #[.int .i64 x] 3)) := I.out.hb
     refine hK.out _ _ H (fun _ => ?_)
     clear hK KK
     generalize (y0.alloc (.cells #[.int .i64 x] 3)) = y1 at *
     generalize y0.heap.size = gl at *
     change wpAnyH _ _ _ _ _ _ _ { tmps := #[_,_,_,_,_,_,_,_,_,_,_,_,_,_,_,_,_,_,_,_,_,_,_,_,_,_,_,_,_,_,_,_], defers := _ } _
     refine wpAnyH_ready (rs := [0]) (by kernel_rfl) (by simp) ?_
     refine (AllReadyH.cons rfl (fun KK hK => ?_) AllReadyH.nil)
     replace I : Hid (InsJ wr (y1.alloc (.cells #[] 3)) 3 1 (.slice (some ⟨y1.heap.size, 0, none⟩) 0 0) 0 (inF E) (some gl) (inVI x)) := I.out.lit0
     go_simp
     replace H : Below wr.heap.size wr (y1.alloc (.cells #[] 3)) := I.out.hb
     refine hK.out _ _ H (fun _ => ?_)
     clear hK KK
     generalize (y1.alloc (.cells #[] 3)) = y2 at *
     generalize y1.heap.size = gr at *
     change wpAnyH _ _ _ _ _ _ _ { tmps := #[_,_,_,_,_,_,_,_,_,_,_,_,_,_,_,_,_,_,_,_,_,_,_,_,_,_,_,_,_,_,_,_], defers := _ } _
     refine wpAnyH_ready (rs := [4]) (by kernel_rfl) (by simp) ?_
     refine (AllReadyH.cons rfl (fun KK hK => ?_) AllReadyH.nil)
     obtain ⟨vr, y3, hr, ho, hg, hl⟩ := allIn y2 wr.heap.size _ 0 E a K c E I.out.hb.size (by omega) I.out.row ((ER.out.less KN.out).below I.out.hb) SP.out.z
     rw [Nat.zero_add, catE_zero] at ho
     obtain ⟨ara, cra, rfl⟩ := ho.form
     replace I : Hid (InsJ wr y3 3 1 (.slice ara K cra) K (inF E) (some gl) (inVI x)) := I.out.grow ho hg hl
     rw [if_pos (by rfl)]
     refine Lib.wp_append_run _ (.tmp 20) (.tmp 23) 29 29 rfl (.slice (some ⟨gr, 0, none⟩) 0 0) (.slice a K c) rfl rfl _ _ (hr _) ?_
     replace H : Below wr.heap.size wr y3 := I.out.hb
     refine hK.out _ _ H (fun _ => ?_)
     clear hK KK hr ho hg hl
     change wpAnyH _ _ _ _ _ _ _ { tmps := #[_,_,_,_,_,_,_,_,_,_,_,_,_,_,_,_,_,_,_,_,_,_,_,_,_,_,_,_,_,_,_,_], defers := _ } _
     refine wpAnyH_ready (rs := [7]) (by kernel_rfl) (by simp) ?_
     refine (AllReadyH.cons rfl (fun KK hK => ?_) AllReadyH.nil)
     obtain ⟨vr, y4, hr, ho, hg, hl⟩ := appInI y3 wr.heap.size _ K gl E x I.out.hb.size (by omega) I.out.row (I.out.lit _ rfl).1
     obtain ⟨arb, crb, rfl⟩ := ho.form
     replace I : Hid (InsJ wr y4 3 1 (.slice arb (K + 1) crb) (K + 1) (inF (updE E K x)) (some gl) (inVI x)) := I.out.grow ho hg hl
     rw [if_pos (by rfl)]
     refine Lib.wp_append_run _ (.tmp 24) (.tmp 26) 29 29 rfl (.slice ara K cra) (.slice (some ⟨gl, 0, none⟩) 1 1) rfl rfl _ _ (hr _) ?_
     replace H : Below wr.heap.size wr y4 := I.out.hb
     refine hK.out _ _ H (fun _ => ?_)
     clear hK KK hr ho hg hl
     change wpAnyH _ _ _ _ _ _ _ { tmps := #[_,_,_,_,_,_,_,_,_,_,_,_,_,_,_,_,_,_,_,_,_,_,_,_,_,_,_,_,_,_,_,_], defers := _ } _
     refine wpAnyH_ready (rs := [11]) (by kernel_rfl) (by simp) ?_
     refine (AllReadyH.cons rfl (fun KK hK => ?_) AllReadyH.nil)
     obtain ⟨vr, y5, hr, ho, hg, hl⟩ := allIn y4 wr.heap.size _ (K + 1) (updE E K x) (cutA a c K 1) (n - K) (c - K) (fun i => E (K + i)) I.out.hb.size (by omega) I.out.row (EC.out.below I.out.hb) (cutA_zero SP.out _ _)
     rw [← ins_cat, show K + 1 + (n - K) = n + 1 by omega] at ho
     obtain ⟨arc, crc, rfl⟩ := ho.form
     replace I : Hid (InsJ wr y5 3 1 (.slice arc (n + 1) crc) (n + 1) (inF (insE E K x)) (some gl) (inVI x)) := I.out.grow ho hg hl
     rw [if_pos (by rfl)]
     refine Lib.wp_append_run _ (.tmp 27) (.tmp 30) 29 29 rfl (.slice arb (K + 1) crb) (.slice (cutA a c K 1) (n - K) (c - K)) rfl rfl _ _ (hr _) ?_
     replace H : Below wr.heap.size wr y5 := I.out.hb
     refine hK.out _ _ H (fun _ => ?_)
     clear hK KK hr ho hg hl
     change wpAnyH _ _ _ _ _ _ _ { tmps := #[_,_,_,_,_,_,_,_,_,_,_,_,_,_,_,_,_,_,_,_,_,_,_,_,_,_,_,_,_,_,_,_], defers := _ } _
     refine wpAnyH_take (i := 12) (v := .slice arc (n + 1) crc) rfl (by kernel_rfl) (by kernel_rfl) (by kernel_rfl) (fun _ _ _ h => h) (Or.inl ⟨by rfl, ?_⟩) H ?_
     ·intro w' hSw; clear hSw; go_simp
     change wpAnyH _ _ _ _ _ _ _ { tmps := #[_,_,_,_,_,_,_,_,_,_,_,_,_,_,_,_,_,_,_,_,_,_,_,_,_,_,_,_,_,_,_,_], defers := _ } _
     refine wpAnyH_done (by kernel_rfl) ?_ _
     refine NoPanic.normal ?_
     have Q : Hid ((∃ b d, Ending.returned (.slice arc (n + 1) crc) = .returned (.slice b (n + 1) d) ∧ IE y5 wr.heap.size (.slice b (n + 1) d) (n + 1) (insE E K x)) ∧ Below wr.heap.size wr y5) := ⟨⟨_, _, rfl, I.out.row⟩, I.out.hb⟩
     clear I H ER EC CT CF SP REST
     go_wp2
     go_ret
     exact Q.out
end Go.Proofs.Ytedncfcmhaaobaa
