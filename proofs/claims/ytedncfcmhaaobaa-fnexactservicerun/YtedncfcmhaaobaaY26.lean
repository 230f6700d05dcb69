/-
  Texts of the proof, joined: QuA, QuO, QuP, QuCl.
-/
import Derived.Test.YtedncfcmhaaobaaY25
import Derived.Test.YtedncfcmhaaobaaY19
import Derived.Test.YtedncfcmhaaobaaY17
import Derived.Test.YtedncfcmhaaobaaY12
import Derived.Lib.SliceRun
import Derived.Lib.AppendZeros
import Derived.Test.YtedncfcmhaaobaaTkH
namespace Go.Proofs.Ytedncfcmhaaobaa
open Go.ChangeShapes Go.WideShapes Go.ChangeAt Go.RowKit
set_option linter.unusedVariables false
theorem oneIA (C : Nat → Int) (m : Nat) : ∀ u ∈ elv 1 m (inF C), u.oneCell' = true := oneIn C m
set_option maxRecDepth 100000 in
theorem allIn (w : World) (B : Nat) (v : Value) (n : Nat) (R : Nat → Int) (a : Option Addr) (m c : Nat) (Q : Nat → Int) (hB : B ≤ w.heap.size) (hn : n + m ≤ 100000) (h : EO w B 3 1 v n (inF R)) (hs : Els w 1 a m (inF Q)) (ha : a = none → c = 0) :
  ∃ v' w', (∀ ty, (Builtin.append_ #[29, 29] ty #[v, .slice a m c]).run Try.prog w = .ok v' w') ∧ EO w' B 3 1 v' (n + m) (inF (catE n R Q)) ∧ w.grownBy w' v.ownBlock ∧ (v'.ownBlock = v.ownBlock ∨ v'.ownBlock = some w.heap.size) := by
 obtain ⟨i, hi, hz, hsz, hby⟩ := info_parts Try.infoInE
 have hcat : elv 1 (n + m) (inF (catE n R Q)) = elv 1 n (inF R) ++ elv 1 m (inF Q) := elv_cat 1 n (inF R) (inF Q) _ (fun i hi => by unfold inF; rw [catE_lt _ _ hi]) (fun i => by unfold inF; rw [catE_at]) m
 have some_ : ∀ ad : Addr, (∀ (j : Nat) (u : Value), (elv 1 m (inF Q))[j]? = some u → w.cell? (ad.add j) = some u) → ∃ v' w', (∀ ty, (Builtin.append_ #[29, 29] ty #[v, .slice (some ad) m c]).run Try.prog w = .ok v' w') ∧ EO w' B 3 1 v' (n + m) (inF (catE n R Q)) ∧ w.grownBy w' v.ownBlock ∧ (v'.ownBlock = v.ownBlock ∨ v'.ownBlock = some w.heap.size) := fun ad hnews => by
  obtain ⟨v', w', hr, ho, hg, _, hloc⟩ := run_append_own_at (P := Try.prog) w B 29 29 3 i _ 1 8 Try.underlying29 hi hz hsz hby rfl (by decide) v n _ h ad m c (elv 1 m (inF Q)) (elv_length _ _ _) hnews (oneIA Q m) (by unfold maxLen; omega) (by omega) hB
  exact ⟨v', w', fun ty => hr, by unfold EO; rw [hcat]; exact ho, hg, hloc⟩
 by_cases h0 : m = 0
 ·subst h0
  cases a with
  | none =>
   obtain rfl := ha rfl
   exact ⟨v, w, fun ty => run_append_owned_none w B 29 ty 3 i 1 Try.underlying29 hi v n _ h, by unfold EO; rw [hcat]; simpa [elv, EO] using h, ⟨rfl, rfl, rfl, Nat.le_refl _, fun _ _ _ => rfl⟩, .inl rfl⟩
  | some ad => exact some_ ad (fun j u hj => by simp [elv] at hj)
 ·obtain ⟨b, off, rfl, hc⟩ := hs.opened (by omega)
  exact some_ _ (elv_news hc)
set_option maxRecDepth 100000 in
set_option maxHeartbeats 4000000 in
theorem l09Add_any (a : Option Addr) (n c : Nat) (E : Nat → Int) (x : Int) (hn : n ≤ 1000) (hsl : SlP a n c) (w : World) (h : Num w a n E) :
  Calls Try.prog 98 #[.slice a n c, .int .i64 x] w fun e w' => (∃ b d, e = .returned (.slice b (n + 1) d) ∧ IE w' w.heap.size (.slice b (n + 1) d) (n + 1) (insE E (plcE x E n) x)) ∧ Below w.heap.size w w' := by
 obtain ⟨K, hK⟩ : ∃ k, k = plcE x E n := ⟨_, rfl⟩
 have kn : K ≤ n := by rw [hK]; exact plcE_le _ _ _
 have klt : ∀ i, i < K → E i < x := fun i hi => plcE_lt x n E i (by omega)
 have kat : K < n → ¬ E K < x := fun q => by rw [hK] at q ⊢; exact plcE_at x n E q
 rw [← hK]
 have H : Hid (Num w a n E) := h
 have SP : Hid (SlP a n c) := hsl
 have KN : Hid (K ≤ n) := kn
 clear h hsl hK
 go_enter Try.func98, Try.ntmps98
 go_wp2
 go_loopw [5] (fun i wr => ∃ k : Nat, k ≤ K ∧ i = .int .i64 k ∧ wr = w) (fun i _ => n - (intOf i).toNat)
 case atStart => exact ⟨0, by omega, rfl, rfl⟩
 case round =>
  obtain ⟨k, hk, rfl, rfl⟩ := hrel
  by_cases hlt : k < K
  ·have hlt' : (k : Int) < (n : Int) := by omega
   obtain ⟨b, off, rfl, hc⟩ := H.out.at (by omega)
   have c0 := hc k (by omega)
   have el := klt k hlt
   clear hc klt kat
   go_wp2
   go_roundw
   case rel => exact ⟨k + 1, by omega, by go_num, trivial⟩
   case measure => simp [intOf]; omega
  ·obtain rfl : K = k := by omega
   have REST : Hid (∀ Q : Prop, Q → Q) := fun _ q => q
   have hck := SP.out.le
   have CT : Hid (∀ w : World, (Instr.slice 29 (.slice a n c) none (some (.int .i64 (K : Int))) none).run Try.prog w = .ok (.slice a K c) w) := fun w => run_cut_to 29 rfl 1 (fun w => by kernel_rfl) SP.out K (by omega) w
   have CF : Hid (∀ w : World, (Instr.slice 29 (.slice a n c) (some (.int .i64 (K : Int))) none none).run Try.prog w = .ok (.slice (cutA a c K 1) (n - K) (c - K)) w) := fun w => run_cut_from 29 rfl 1 (fun w => by kernel_rfl) SP.out K kn w
   have ER : Hid (Els wr 1 a n (inF E)) := H.out
   have EC : Hid (Els wr 1 (cutA a c K 1) (n - K) (inF (fun i => E (K + i)))) := Els.cut H.out hck K kn
   by_cases hlt : K < n
   ·have hlt' : (K : Int) < (n : Int) := by omega
    obtain ⟨b, off, ha, hc⟩ := H.out.at (by omega)
    have c0 := hc K hlt
    have hgt := kat hlt
    subst ha
    clear hc kat klt hk
    go_wp2_with fail
    clear c0 hgt
    have I : Hid (InsJ wr wr.drew 3 1 (.slice none 0 0) 0 (inF E) none (inVI x)) := InsJ.start _ _ _ _ _
    have H : Below wr.heap.size wr wr.drew := I.out.hb
    refine wp_region_noPanic ?_
    refine wp_region_held_drew (S := fun w' => Below wr.heap.size wr w') (by kernel_rfl) H (fun _ => ?_)
    generalize wr.drew = y0 at *
    refine tkH (i := 1) (v := .slice (some ⟨b, off, none⟩) n c) rfl (by kernel_rfl) (by rfl) ?_ H ?_
    ·intro w' hSw; clear hSw; go_simp
    change wpAnyH _ _ _ _ _ _ _ { tmps := #[_,_,_,_,_,_,_,_,_,_,_,_,_,_,_,_,_,_,_,_,_,_,_,_,_,_,_,_,_,_,_,_], defers := _ } _
    refine tkH (i := 2) (v := .int .i64 (K : Int)) rfl (by kernel_rfl) (by rfl) ?_ H ?_
    ·intro w' hSw; clear hSw; go_simp
    change wpAnyH _ _ _ _ _ _ _ { tmps := #[_,_,_,_,_,_,_,_,_,_,_,_,_,_,_,_,_,_,_,_,_,_,_,_,_,_,_,_,_,_,_,_], defers := _ } _
    refine tkH (i := 3) (v := .slice (some ⟨b, off, none⟩) K c) rfl (by kernel_rfl) (by rfl) ?_ H ?_
    ·intro w' hSw; have hs := CT.out w'; clear hSw; go_simp
    change wpAnyH _ _ _ _ _ _ _ { tmps := #[_,_,_,_,_,_,_,_,_,_,_,_,_,_,_,_,_,_,_,_,_,_,_,_,_,_,_,_,_,_,_,_], defers := _ } _
    refine tkH (i := 5) (v := .int .i64 x) rfl (by kernel_rfl) (by rfl) ?_ H ?_
    ·intro w' hSw; clear hSw; go_simp
    change wpAnyH _ _ _ _ _ _ _ { tmps := #[_,_,_,_,_,_,_,_,_,_,_,_,_,_,_,_,_,_,_,_,_,_,_,_,_,_,_,_,_,_,_,_], defers := _ } _
    refine tkH (i := 8) (v := .slice (some ⟨b, off, none⟩) n c) rfl (by kernel_rfl) (by rfl) ?_ H ?_
    ·intro w' hSw; clear hSw; go_simp
    change wpAnyH _ _ _ _ _ _ _ { tmps := #[_,_,_,_,_,_,_,_,_,_,_,_,_,_,_,_,_,_,_,_,_,_,_,_,_,_,_,_,_,_,_,_], defers := _ } _
    refine tkH (i := 9) (v := .int .i64 (K : Int)) rfl (by kernel_rfl) (by rfl) ?_ H ?_
    ·intro w' hSw; clear hSw; go_simp
    change wpAnyH _ _ _ _ _ _ _ { tmps := #[_,_,_,_,_,_,_,_,_,_,_,_,_,_,_,_,_,_,_,_,_,_,_,_,_,_,_,_,_,_,_,_], defers := _ } _
    refine tkH (i := 10) (v := .slice (cutA (some ⟨b, off, none⟩) c K 1) (n - K) (c - K)) rfl (by kernel_rfl) (by rfl) ?_ H ?_
    ·intro w' hSw; have hs := CF.out w'; clear hSw; go_simp
    change wpAnyH _ _ _ _ _ _ _ { tmps := #[_,_,_,_,_,_,_,_,_,_,_,_,_,_,_,_,_,_,_,_,_,_,_,_,_,_,_,_,_,_,_,_], defers := _ } _
    refine wpAnyH_ready (rs := [0, 6]) (by kernel_rfl) (by simp) ?_
    refine (AllReadyH.cons rfl (fun KK hK => ?_) (AllReadyH.cons rfl (fun KK hK => ?_) AllReadyH.nil))
    ·skip
     replace I : Hid (InsJ wr (y0.alloc (.cells #[] 3)) 3 1 (.slice (some ⟨y0.heap.size, 0, none⟩) 0 0) 0 (inF E) none (inVI x)) := I.out.lit0
     go_simp
     replace H : Below wr.heap.size wr (y0.alloc (.cells #[] 3)) := I.out.hb
     refine hK.out _ _ H (fun _ => ?_)
     clear hK KK
     generalize (y0.alloc (.cells #[] 3)) = y1 at *
     generalize y0.heap.size = gr at *
     change wpAnyH _ _ _ _ _ _ _ { tmps := #[_,_,_,_,_,_,_,_,_,_,_,_,_,_,_,_,_,_,_,_,_,_,_,_,_,_,_,_,_,_,_,_], defers := _ } _
     refine wpAnyH_ready (rs := [4, 6]) (by kernel_rfl) (by simp) ?_
     refine (AllReadyH.cons rfl (fun KK hK => ?_) (AllReadyH.cons rfl (fun KK hK => ?_) AllReadyH.nil))
     ·skip
      obtain ⟨vr, y2, hr, ho, hg, hl⟩ := allIn y1 wr.heap.size _ 0 E (some ⟨b, off, none⟩) K c E I.out.hb.size (by omega) I.out.row ((ER.out.less KN.out).below I.out.hb) SP.out.z
      rw [Nat.zero_add, catE_zero] at ho
      obtain ⟨ara, cra, rfl⟩ := ho.form
      replace I : Hid (InsJ wr y2 3 1 (.slice ara K cra) K (inF E) none (inVI x)) := I.out.grow ho hg hl
      rw [if_pos (by rfl)]
      refine Lib.wp_append_run _ (.tmp 20) (.tmp 23) 29 29 rfl (.slice (some ⟨gr, 0, none⟩) 0 0) (.slice (some ⟨b, off, none⟩) K c) rfl rfl _ _ (hr _) ?_
      replace H : Below wr.heap.size wr y2 := I.out.hb
      refine hK.out _ _ H (fun _ => ?_)
      clear hK KK hr ho hg hl
      change wpAnyH _ _ _ _ _ _ _ { tmps := #[_,_,_,_,_,_,_,_,_,_,_,_,_,_,_,_,_,_,_,_,_,_,_,_,_,_,_,_,_,_,_,_], defers := _ } _
      refine rdH (i := 6) (by kernel_rfl) rfl (fun KK hK => ?_)
      replace I : Hid (InsJ wr (y2.alloc (.cells #[.int .i64 x] 3)) 3 1 (.slice ara K cra) K (inF E) (some y2.heap.size) (inVI x)) := I.out.lit1 #[.int .i64 x] (fun j hj => (by obtain rfl : j = 0 := (by omega); rfl))
      go_simp
      replace H : Below wr.heap.size wr (y2.alloc (.cells #[.int .i64 x] 3)) := I.out.hb
      refine hK.out _ _ H (fun _ => ?_)
      clear hK KK
      generalize (y2.alloc (.cells #[.int .i64 x] 3)) = y3 at *
      generalize y2.heap.size = gl at *
      change wpAnyH _ _ _ _ _ _ _ { tmps := #[_,_,_,_,_,_,_,_,_,_,_,_,_,_,_,_,_,_,_,_,_,_,_,_,_,_,_,_,_,_,_,_], defers := _ } _
      refine rdH (i := 7) (by kernel_rfl) rfl (fun KK hK => ?_)
      obtain ⟨vr, y4, hr, ho, hg, hl⟩ := appInI y3 wr.heap.size _ K gl E x I.out.hb.size (by omega) I.out.row (I.out.lit _ rfl).1
      obtain ⟨arb, crb, rfl⟩ := ho.form
      replace I : Hid (InsJ wr y4 3 1 (.slice arb (K + 1) crb) (K + 1) (inF (updE E K x)) (some gl) (inVI x)) := I.out.grow ho hg hl
      rw [if_pos (by rfl)]
      refine Lib.wp_append_run _ (.tmp 24) (.tmp 26) 29 29 rfl (.slice ara K cra) (.slice (some ⟨gl, 0, none⟩) 1 1) rfl rfl _ _ (hr _) ?_
      replace H : Below wr.heap.size wr y4 := I.out.hb
      refine hK.out _ _ H (fun _ => ?_)
      clear hK KK hr ho hg hl
      change wpAnyH _ _ _ _ _ _ _ { tmps := #[_,_,_,_,_,_,_,_,_,_,_,_,_,_,_,_,_,_,_,_,_,_,_,_,_,_,_,_,_,_,_,_], defers := _ } _
      refine rdH (i := 11) (by kernel_rfl) rfl (fun KK hK => ?_)
      obtain ⟨vr, y5, hr, ho, hg, hl⟩ := allIn y4 wr.heap.size _ (K + 1) (updE E K x) (cutA (some ⟨b, off, none⟩) c K 1) (n - K) (c - K) (fun i => E (K + i)) I.out.hb.size (by omega) I.out.row (EC.out.below I.out.hb) (cutA_zero SP.out _ _)
      rw [← ins_cat, show K + 1 + (n - K) = n + 1 by omega] at ho
      obtain ⟨arc, crc, rfl⟩ := ho.form
      replace I : Hid (InsJ wr y5 3 1 (.slice arc (n + 1) crc) (n + 1) (inF (insE E K x)) (some gl) (inVI x)) := I.out.grow ho hg hl
      rw [if_pos (by rfl)]
      refine Lib.wp_append_run _ (.tmp 27) (.tmp 30) 29 29 rfl (.slice arb (K + 1) crb) (.slice (cutA (some ⟨b, off, none⟩) c K 1) (n - K) (c - K)) rfl rfl _ _ (hr _) ?_
      replace H : Below wr.heap.size wr y5 := I.out.hb
      refine hK.out _ _ H (fun _ => ?_)
      clear hK KK hr ho hg hl
      change wpAnyH _ _ _ _ _ _ _ { tmps := #[_,_,_,_,_,_,_,_,_,_,_,_,_,_,_,_,_,_,_,_,_,_,_,_,_,_,_,_,_,_,_,_], defers := _ } _
      refine tkH (i := 12) (v := .slice arc (n + 1) crc) rfl (by kernel_rfl) (by rfl) ?_ H ?_
      ·intro w' hSw; clear hSw; go_simp
      change wpAnyH _ _ _ _ _ _ _ { tmps := #[_,_,_,_,_,_,_,_,_,_,_,_,_,_,_,_,_,_,_,_,_,_,_,_,_,_,_,_,_,_,_,_], defers := _ } _
      refine wpAnyH_done (by kernel_rfl) ?_ _
      refine NoPanic.normal ?_
      have Q : Hid ((∃ b d, Ending.returned (.slice arc (n + 1) crc) = .returned (.slice b (n + 1) d) ∧ IE y5 wr.heap.size (.slice b (n + 1) d) (n + 1) (insE E K x)) ∧ Below wr.heap.size wr y5) := ⟨⟨_, _, rfl, I.out.row⟩, I.out.hb⟩
      clear I H ER EC CT CF SP REST
      go_wp2
      go_ret
      exact Q.out
     ·skip
      replace I : Hid (InsJ wr (y1.alloc (.cells #[.int .i64 x] 3)) 3 1 (.slice (some ⟨gr, 0, none⟩) 0 0) 0 (inF E) (some y1.heap.size) (inVI x)) := I.out.lit1 #[.int .i64 x] (fun j hj => (by obtain rfl : j = 0 := (by omega); rfl))
      go_simp
      replace H : Below wr.heap.size wr (y1.alloc (.cells #[.int .i64 x] 3)) := I.out.hb
      refine hK.out _ _ H (fun _ => ?_)
      clear hK KK
      generalize (y1.alloc (.cells #[.int .i64 x] 3)) = y2 at *
      generalize y1.heap.size = gl at *
      change wpAnyH _ _ _ _ _ _ _ { tmps := #[_,_,_,_,_,_,_,_,_,_,_,_,_,_,_,_,_,_,_,_,_,_,_,_,_,_,_,_,_,_,_,_], defers := _ } _
      refine rdH (i := 4) (by kernel_rfl) rfl (fun KK hK => ?_)
      obtain ⟨vr, y3, hr, ho, hg, hl⟩ := allIn y2 wr.heap.size _ 0 E (some ⟨b, off, none⟩) K c E I.out.hb.size (by omega) I.out.row ((ER.out.less KN.out).below I.out.hb) SP.out.z
      rw [Nat.zero_add, catE_zero] at ho
      obtain ⟨ara, cra, rfl⟩ := ho.form
      replace I : Hid (InsJ wr y3 3 1 (.slice ara K cra) K (inF E) (some gl) (inVI x)) := I.out.grow ho hg hl
      rw [if_pos (by rfl)]
      refine Lib.wp_append_run _ (.tmp 20) (.tmp 23) 29 29 rfl (.slice (some ⟨gr, 0, none⟩) 0 0) (.slice (some ⟨b, off, none⟩) K c) rfl rfl _ _ (hr _) ?_
      replace H : Below wr.heap.size wr y3 := I.out.hb
      refine hK.out _ _ H (fun _ => ?_)
      clear hK KK hr ho hg hl
      change wpAnyH _ _ _ _ _ _ _ { tmps := #[_,_,_,_,_,_,_,_,_,_,_,_,_,_,_,_,_,_,_,_,_,_,_,_,_,_,_,_,_,_,_,_], defers := _ } _
      refine rdH (i := 7) (by kernel_rfl) rfl (fun KK hK => ?_)
      obtain ⟨vr, y4, hr, ho, hg, hl⟩ := appInI y3 wr.heap.size _ K gl E x I.out.hb.size (by omega) I.out.row (I.out.lit _ rfl).1
      obtain ⟨arb, crb, rfl⟩ := ho.form
      replace I : Hid (InsJ wr y4 3 1 (.slice arb (K + 1) crb) (K + 1) (inF (updE E K x)) (some gl) (inVI x)) := I.out.grow ho hg hl
      rw [if_pos (by rfl)]
      refine Lib.wp_append_run _ (.tmp 24) (.tmp 26) 29 29 rfl (.slice ara K cra) (.slice (some ⟨gl, 0, none⟩) 1 1) rfl rfl _ _ (hr _) ?_
      replace H : Below wr.heap.size wr y4 := I.out.hb
      refine hK.out _ _ H (fun _ => ?_)
      clear hK KK hr ho hg hl
      change wpAnyH _ _ _ _ _ _ _ { tmps := #[_,_,_,_,_,_,_,_,_,_,_,_,_,_,_,_,_,_,_,_,_,_,_,_,_,_,_,_,_,_,_,_], defers := _ } _
      refine rdH (i := 11) (by kernel_rfl) rfl (fun KK hK => ?_)
      obtain ⟨vr, y5, hr, ho, hg, hl⟩ := allIn y4 wr.heap.size _ (K + 1) (updE E K x) (cutA (some ⟨b, off, none⟩) c K 1) (n - K) (c - K) (fun i => E (K + i)) I.out.hb.size (by omega) I.out.row (EC.out.below I.out.hb) (cutA_zero SP.out _ _)
      rw [← ins_cat, show K + 1 + (n - K) = n + 1 by omega] at ho
      obtain ⟨arc, crc, rfl⟩ := ho.form
      replace I : Hid (InsJ wr y5 3 1 (.slice arc (n + 1) crc) (n + 1) (inF (insE E K x)) (some gl) (inVI x)) := I.out.grow ho hg hl
      rw [if_pos (by rfl)]
      refine Lib.wp_append_run _ (.tmp 27) (.tmp 30) 29 29 rfl (.slice arb (K + 1) crb) (.slice (cutA (some ⟨b, off, none⟩) c K 1) (n - K) (c - K)) rfl rfl _ _ (hr _) ?_
      replace H : Below wr.heap.size wr y5 := I.out.hb
      refine hK.out _ _ H (fun _ => ?_)
      clear hK KK hr ho hg hl
      change wpAnyH _ _ _ _ _ _ _ { tmps := #[_,_,_,_,_,_,_,_,_,_,_,_,_,_,_,_,_,_,_,_,_,_,_,_,_,_,_,_,_,_,_,_], defers := _ } _
      refine tkH (i := 12) (v := .slice arc (n + 1) crc) rfl (by kernel_rfl) (by rfl) ?_ H ?_
      ·intro w' hSw; clear hSw; go_simp
      change wpAnyH _ _ _ _ _ _ _ { tmps := #[_,_,_,_,_,_,_,_,_,_,_,_,_,_,_,_,_,_,_,_,_,_,_,_,_,_,_,_,_,_,_,_], defers := _ } _
      refine wpAnyH_done (by kernel_rfl) ?_ _
      refine NoPanic.normal ?_
      have Q : Hid ((∃ b d, Ending.returned (.slice arc (n + 1) crc) = .returned (.slice b (n + 1) d) ∧ IE y5 wr.heap.size (.slice b (n + 1) d) (n + 1) (insE E K x)) ∧ Below wr.heap.size wr y5) := ⟨⟨_, _, rfl, I.out.row⟩, I.out.hb⟩
      clear I H ER EC CT CF SP REST
      go_wp2
      go_ret
      exact Q.out
    ·skip
     replace I : Hid (InsJ wr (y0.alloc (.cells #[.int .i64 x] 3)) 3 1 (.slice none 0 0) 0 (inF E) (some y0.heap.size) (inVI x)) := I.out.lit1 #[.int .i64 x] (fun j hj => (by obtain rfl : j = 0 := (by omega); rfl))
     go_simp
     replace H : Below wr.heap.size wr (y0.alloc (.cells #[.int .i64 x] 3)) := I.out.hb
     refine hK.out _ _ H (fun _ => ?_)
     clear hK KK
     generalize (y0.alloc (.cells #[.int .i64 x] 3)) = y1 at *
     generalize y0.heap.size = gl at *
     change wpAnyH _ _ _ _ _ _ _ { tmps := #[_,_,_,_,_,_,_,_,_,_,_,_,_,_,_,_,_,_,_,_,_,_,_,_,_,_,_,_,_,_,_,_], defers := _ } _
     refine rdH (i := 0) (by kernel_rfl) rfl (fun KK hK => ?_)
     replace I : Hid (InsJ wr (y1.alloc (.cells #[] 3)) 3 1 (.slice (some ⟨y1.heap.size, 0, none⟩) 0 0) 0 (inF E) (some gl) (inVI x)) := I.out.lit0
     go_simp
     replace H : Below wr.heap.size wr (y1.alloc (.cells #[] 3)) := I.out.hb
     refine hK.out _ _ H (fun _ => ?_)
     clear hK KK
     generalize (y1.alloc (.cells #[] 3)) = y2 at *
     generalize y1.heap.size = gr at *
     change wpAnyH _ _ _ _ _ _ _ { tmps := #[_,_,_,_,_,_,_,_,_,_,_,_,_,_,_,_,_,_,_,_,_,_,_,_,_,_,_,_,_,_,_,_], defers := _ } _
     refine rdH (i := 4) (by kernel_rfl) rfl (fun KK hK => ?_)
     obtain ⟨vr, y3, hr, ho, hg, hl⟩ := allIn y2 wr.heap.size _ 0 E (some ⟨b, off, none⟩) K c E I.out.hb.size (by omega) I.out.row ((ER.out.less KN.out).below I.out.hb) SP.out.z
     rw [Nat.zero_add, catE_zero] at ho
     obtain ⟨ara, cra, rfl⟩ := ho.form
     replace I : Hid (InsJ wr y3 3 1 (.slice ara K cra) K (inF E) (some gl) (inVI x)) := I.out.grow ho hg hl
     rw [if_pos (by rfl)]
     refine Lib.wp_append_run _ (.tmp 20) (.tmp 23) 29 29 rfl (.slice (some ⟨gr, 0, none⟩) 0 0) (.slice (some ⟨b, off, none⟩) K c) rfl rfl _ _ (hr _) ?_
     replace H : Below wr.heap.size wr y3 := I.out.hb
     refine hK.out _ _ H (fun _ => ?_)
     clear hK KK hr ho hg hl
     change wpAnyH _ _ _ _ _ _ _ { tmps := #[_,_,_,_,_,_,_,_,_,_,_,_,_,_,_,_,_,_,_,_,_,_,_,_,_,_,_,_,_,_,_,_], defers := _ } _
     refine rdH (i := 7) (by kernel_rfl) rfl (fun KK hK => ?_)
     obtain ⟨vr, y4, hr, ho, hg, hl⟩ := appInI y3 wr.heap.size _ K gl E x I.out.hb.size (by omega) I.out.row (I.out.lit _ rfl).1
     obtain ⟨arb, crb, rfl⟩ := ho.form
     replace I : Hid (InsJ wr y4 3 1 (.slice arb (K + 1) crb) (K + 1) (inF (updE E K x)) (some gl) (inVI x)) := I.out.grow ho hg hl
     rw [if_pos (by rfl)]
     refine Lib.wp_append_run _ (.tmp 24) (.tmp 26) 29 29 rfl (.slice ara K cra) (.slice (some ⟨gl, 0, none⟩) 1 1) rfl rfl _ _ (hr _) ?_
     replace H : Below wr.heap.size wr y4 := I.out.hb
     refine hK.out _ _ H (fun _ => ?_)
     clear hK KK hr ho hg hl
     change wpAnyH _ _ _ _ _ _ _ { tmps := #[_,_,_,_,_,_,_,_,_,_,_,_,_,_,_,_,_,_,_,_,_,_,_,_,_,_,_,_,_,_,_,_], defers := _ } _
     refine rdH (i := 11) (by kernel_rfl) rfl (fun KK hK => ?_)
     obtain ⟨vr, y5, hr, ho, hg, hl⟩ := allIn y4 wr.heap.size _ (K + 1) (updE E K x) (cutA (some ⟨b, off, none⟩) c K 1) (n - K) (c - K) (fun i => E (K + i)) I.out.hb.size (by omega) I.out.row (EC.out.below I.out.hb) (cutA_zero SP.out _ _)
     rw [← ins_cat, show K + 1 + (n - K) = n + 1 by omega] at ho
     obtain ⟨arc, crc, rfl⟩ := ho.form
     replace I : Hid (InsJ wr y5 3 1 (.slice arc (n + 1) crc) (n + 1) (inF (insE E K x)) (some gl) (inVI x)) := I.out.grow ho hg hl
     rw [if_pos (by rfl)]
     refine Lib.wp_append_run _ (.tmp 27) (.tmp 30) 29 29 rfl (.slice arb (K + 1) crb) (.slice (cutA (some ⟨b, off, none⟩) c K 1) (n - K) (c - K)) rfl rfl _ _ (hr _) ?_
     replace H : Below wr.heap.size wr y5 := I.out.hb
     refine hK.out _ _ H (fun _ => ?_)
     clear hK KK hr ho hg hl
     change wpAnyH _ _ _ _ _ _ _ { tmps := #[_,_,_,_,_,_,_,_,_,_,_,_,_,_,_,_,_,_,_,_,_,_,_,_,_,_,_,_,_,_,_,_], defers := _ } _
     refine tkH (i := 12) (v := .slice arc (n + 1) crc) rfl (by kernel_rfl) (by rfl) ?_ H ?_
     ·intro w' hSw; clear hSw; go_simp
     change wpAnyH _ _ _ _ _ _ _ { tmps := #[_,_,_,_,_,_,_,_,_,_,_,_,_,_,_,_,_,_,_,_,_,_,_,_,_,_,_,_,_,_,_,_], defers := _ } _
     refine wpAnyH_done (by kernel_rfl) ?_ _
     refine NoPanic.normal ?_
     have Q : Hid ((∃ b d, Ending.returned (.slice arc (n + 1) crc) = .returned (.slice b (n + 1) d) ∧ IE y5 wr.heap.size (.slice b (n + 1) d) (n + 1) (insE E K x)) ∧ Below wr.heap.size wr y5) := ⟨⟨_, _, rfl, I.out.row⟩, I.out.hb⟩
     clear I H ER EC CT CF SP REST
     go_wp2
     go_ret
     exact Q.out
   ·have hlt' : ¬ (K : Int) < (n : Int) := by omega
    clear kat klt hk
    go_wp2_with fail
    have I : Hid (InsJ wr wr.drew 3 1 (.slice none 0 0) 0 (inF E) none (inVI x)) := InsJ.start _ _ _ _ _
    have H : Below wr.heap.size wr wr.drew := I.out.hb
    refine wp_region_noPanic ?_
    refine wp_region_held_drew (S := fun w' => Below wr.heap.size wr w') (by kernel_rfl) H (fun _ => ?_)
    generalize wr.drew = y0 at *
    refine tkH (i := 1) (v := .slice a n c) rfl (by kernel_rfl) (by rfl) ?_ H ?_
    ·intro w' hSw; clear hSw; go_simp
    change wpAnyH _ _ _ _ _ _ _ { tmps := #[_,_,_,_,_,_,_,_,_,_,_,_,_,_,_,_,_,_,_,_,_,_,_,_,_,_,_,_,_,_,_,_], defers := _ } _
    refine tkH (i := 2) (v := .int .i64 (K : Int)) rfl (by kernel_rfl) (by rfl) ?_ H ?_
    ·intro w' hSw; clear hSw; go_simp
    change wpAnyH _ _ _ _ _ _ _ { tmps := #[_,_,_,_,_,_,_,_,_,_,_,_,_,_,_,_,_,_,_,_,_,_,_,_,_,_,_,_,_,_,_,_], defers := _ } _
    refine tkH (i := 3) (v := .slice a K c) rfl (by kernel_rfl) (by rfl) ?_ H ?_
    ·intro w' hSw; have hs := CT.out w'; clear hSw; go_simp
    change wpAnyH _ _ _ _ _ _ _ { tmps := #[_,_,_,_,_,_,_,_,_,_,_,_,_,_,_,_,_,_,_,_,_,_,_,_,_,_,_,_,_,_,_,_], defers := _ } _
    refine tkH (i := 5) (v := .int .i64 x) rfl (by kernel_rfl) (by rfl) ?_ H ?_
    ·intro w' hSw; clear hSw; go_simp
    change wpAnyH _ _ _ _ _ _ _ { tmps := #[_,_,_,_,_,_,_,_,_,_,_,_,_,_,_,_,_,_,_,_,_,_,_,_,_,_,_,_,_,_,_,_], defers := _ } _
    refine tkH (i := 8) (v := .slice a n c) rfl (by kernel_rfl) (by rfl) ?_ H ?_
    ·intro w' hSw; clear hSw; go_simp
    change wpAnyH _ _ _ _ _ _ _ { tmps := #[_,_,_,_,_,_,_,_,_,_,_,_,_,_,_,_,_,_,_,_,_,_,_,_,_,_,_,_,_,_,_,_], defers := _ } _
    refine tkH (i := 9) (v := .int .i64 (K : Int)) rfl (by kernel_rfl) (by rfl) ?_ H ?_
    ·intro w' hSw; clear hSw; go_simp
    change wpAnyH _ _ _ _ _ _ _ { tmps := #[_,_,_,_,_,_,_,_,_,_,_,_,_,_,_,_,_,_,_,_,_,_,_,_,_,_,_,_,_,_,_,_], defers := _ } _
    refine tkH (i := 10) (v := .slice (cutA a c K 1) (n - K) (c - K)) rfl (by kernel_rfl) (by rfl) ?_ H ?_
    ·intro w' hSw; have hs := CF.out w'; clear hSw; go_simp
    change wpAnyH _ _ _ _ _ _ _ { tmps := #[_,_,_,_,_,_,_,_,_,_,_,_,_,_,_,_,_,_,_,_,_,_,_,_,_,_,_,_,_,_,_,_], defers := _ } _
    refine wpAnyH_ready (rs := [0, 6]) (by kernel_rfl) (by simp) ?_
    refine (AllReadyH.cons rfl (fun KK hK => ?_) (AllReadyH.cons rfl (fun KK hK => ?_) AllReadyH.nil))
    ·skip
     replace I : Hid (InsJ wr (y0.alloc (.cells #[] 3)) 3 1 (.slice (some ⟨y0.heap.size, 0, none⟩) 0 0) 0 (inF E) none (inVI x)) := I.out.lit0
     go_simp
     replace H : Below wr.heap.size wr (y0.alloc (.cells #[] 3)) := I.out.hb
     refine hK.out _ _ H (fun _ => ?_)
     clear hK KK
     generalize (y0.alloc (.cells #[] 3)) = y1 at *
     generalize y0.heap.size = gr at *
     change wpAnyH _ _ _ _ _ _ _ { tmps := #[_,_,_,_,_,_,_,_,_,_,_,_,_,_,_,_,_,_,_,_,_,_,_,_,_,_,_,_,_,_,_,_], defers := _ } _
     refine wpAnyH_ready (rs := [4, 6]) (by kernel_rfl) (by simp) ?_
     refine (AllReadyH.cons rfl (fun KK hK => ?_) (AllReadyH.cons rfl (fun KK hK => ?_) AllReadyH.nil))
     ·skip
      obtain ⟨vr, y2, hr, ho, hg, hl⟩ := allIn y1 wr.heap.size _ 0 E a K c E I.out.hb.size (by omega) I.out.row ((ER.out.less KN.out).below I.out.hb) SP.out.z
      rw [Nat.zero_add, catE_zero] at ho
      obtain ⟨ara, cra, rfl⟩ := ho.form
      replace I : Hid (InsJ wr y2 3 1 (.slice ara K cra) K (inF E) none (inVI x)) := I.out.grow ho hg hl
      rw [if_pos (by rfl)]
      refine Lib.wp_append_run _ (.tmp 20) (.tmp 23) 29 29 rfl (.slice (some ⟨gr, 0, none⟩) 0 0) (.slice a K c) rfl rfl _ _ (hr _) ?_
      replace H : Below wr.heap.size wr y2 := I.out.hb
      refine hK.out _ _ H (fun _ => ?_)
      clear hK KK hr ho hg hl
      change wpAnyH _ _ _ _ _ _ _ { tmps := #[_,_,_,_,_,_,_,_,_,_,_,_,_,_,_,_,_,_,_,_,_,_,_,_,_,_,_,_,_,_,_,_], defers := _ } _
      refine rdH (i := 6) (by kernel_rfl) rfl (fun KK hK => ?_)
      replace I : Hid (InsJ wr (y2.alloc (.cells #[.int .i64 x] 3)) 3 1 (.slice ara K cra) K (inF E) (some y2.heap.size) (inVI x)) := I.out.lit1 #[.int .i64 x] (fun j hj => (by obtain rfl : j = 0 := (by omega); rfl))
      go_simp
      replace H : Below wr.heap.size wr (y2.alloc (.cells #[.int .i64 x] 3)) := I.out.hb
      refine hK.out _ _ H (fun _ => ?_)
      clear hK KK
      generalize (y2.alloc (.cells #[.int .i64 x] 3)) = y3 at *
      generalize y2.heap.size = gl at *
      change wpAnyH _ _ _ _ _ _ _ { tmps := #[_,_,_,_,_,_,_,_,_,_,_,_,_,_,_,_,_,_,_,_,_,_,_,_,_,_,_,_,_,_,_,_], defers := _ } _
      refine rdH (i := 7) (by kernel_rfl) rfl (fun KK hK => ?_)
      obtain ⟨vr, y4, hr, ho, hg, hl⟩ := appInI y3 wr.heap.size _ K gl E x I.out.hb.size (by omega) I.out.row (I.out.lit _ rfl).1
      obtain ⟨arb, crb, rfl⟩ := ho.form
      replace I : Hid (InsJ wr y4 3 1 (.slice arb (K + 1) crb) (K + 1) (inF (updE E K x)) (some gl) (inVI x)) := I.out.grow ho hg hl
      rw [if_pos (by rfl)]
      refine Lib.wp_append_run _ (.tmp 24) (.tmp 26) 29 29 rfl (.slice ara K cra) (.slice (some ⟨gl, 0, none⟩) 1 1) rfl rfl _ _ (hr _) ?_
      replace H : Below wr.heap.size wr y4 := I.out.hb
      refine hK.out _ _ H (fun _ => ?_)
      clear hK KK hr ho hg hl
      change wpAnyH _ _ _ _ _ _ _ { tmps := #[_,_,_,_,_,_,_,_,_,_,_,_,_,_,_,_,_,_,_,_,_,_,_,_,_,_,_,_,_,_,_,_], defers := _ } _
      refine rdH (i := 11) (by kernel_rfl) rfl (fun KK hK => ?_)
      obtain ⟨vr, y5, hr, ho, hg, hl⟩ := allIn y4 wr.heap.size _ (K + 1) (updE E K x) (cutA a c K 1) (n - K) (c - K) (fun i => E (K + i)) I.out.hb.size (by omega) I.out.row (EC.out.below I.out.hb) (cutA_zero SP.out _ _)
      rw [← ins_cat, show K + 1 + (n - K) = n + 1 by omega] at ho
      obtain ⟨arc, crc, rfl⟩ := ho.form
      replace I : Hid (InsJ wr y5 3 1 (.slice arc (n + 1) crc) (n + 1) (inF (insE E K x)) (some gl) (inVI x)) := I.out.grow ho hg hl
      rw [if_pos (by rfl)]
      refine Lib.wp_append_run _ (.tmp 27) (.tmp 30) 29 29 rfl (.slice arb (K + 1) crb) (.slice (cutA a c K 1) (n - K) (c - K)) rfl rfl _ _ (hr _) ?_
      replace H : Below wr.heap.size wr y5 := I.out.hb
      refine hK.out _ _ H (fun _ => ?_)
      clear hK KK hr ho hg hl
      change wpAnyH _ _ _ _ _ _ _ { tmps := #[_,_,_,_,_,_,_,_,_,_,_,_,_,_,_,_,_,_,_,_,_,_,_,_,_,_,_,_,_,_,_,_], defers := _ } _
      refine tkH (i := 12) (v := .slice arc (n + 1) crc) rfl (by kernel_rfl) (by rfl) ?_ H ?_
      ·intro w' hSw; clear hSw; go_simp
      change wpAnyH _ _ _ _ _ _ _ { tmps := #[_,_,_,_,_,_,_,_,_,_,_,_,_,_,_,_,_,_,_,_,_,_,_,_,_,_,_,_,_,_,_,_], defers := _ } _
      refine wpAnyH_done (by kernel_rfl) ?_ _
      refine NoPanic.normal ?_
      have Q : Hid ((∃ b d, Ending.returned (.slice arc (n + 1) crc) = .returned (.slice b (n + 1) d) ∧ IE y5 wr.heap.size (.slice b (n + 1) d) (n + 1) (insE E K x)) ∧ Below wr.heap.size wr y5) := ⟨⟨_, _, rfl, I.out.row⟩, I.out.hb⟩
      clear I H ER EC CT CF SP REST
      go_wp2
      go_ret
      exact Q.out
     ·skip
      replace I : Hid (InsJ wr (y1.alloc (.cells #[.int .i64 x] 3)) 3 1 (.slice (some ⟨gr, 0, none⟩) 0 0) 0 (inF E) (some y1.heap.size) (inVI x)) := I.out.lit1 #[.int .i64 x] (fun j hj => (by obtain rfl : j = 0 := (by omega); rfl))
      go_simp
      replace H : Below wr.heap.size wr (y1.alloc (.cells #[.int .i64 x] 3)) := I.out.hb
      refine hK.out _ _ H (fun _ => ?_)
      clear hK KK
      generalize (y1.alloc (.cells #[.int .i64 x] 3)) = y2 at *
      generalize y1.heap.size = gl at *
      change wpAnyH _ _ _ _ _ _ _ { tmps := #[_,_,_,_,_,_,_,_,_,_,_,_,_,_,_,_,_,_,_,_,_,_,_,_,_,_,_,_,_,_,_,_], defers := _ } _
      refine rdH (i := 4) (by kernel_rfl) rfl (fun KK hK => ?_)
      obtain ⟨vr, y3, hr, ho, hg, hl⟩ := allIn y2 wr.heap.size _ 0 E a K c E I.out.hb.size (by omega) I.out.row ((ER.out.less KN.out).below I.out.hb) SP.out.z
      rw [Nat.zero_add, catE_zero] at ho
      obtain ⟨ara, cra, rfl⟩ := ho.form
      replace I : Hid (InsJ wr y3 3 1 (.slice ara K cra) K (inF E) (some gl) (inVI x)) := I.out.grow ho hg hl
      rw [if_pos (by rfl)]
      refine Lib.wp_append_run _ (.tmp 20) (.tmp 23) 29 29 rfl (.slice (some ⟨gr, 0, none⟩) 0 0) (.slice a K c) rfl rfl _ _ (hr _) ?_
      replace H : Below wr.heap.size wr y3 := I.out.hb
      refine hK.out _ _ H (fun _ => ?_)
      clear hK KK hr ho hg hl
      change wpAnyH _ _ _ _ _ _ _ { tmps := #[_,_,_,_,_,_,_,_,_,_,_,_,_,_,_,_,_,_,_,_,_,_,_,_,_,_,_,_,_,_,_,_], defers := _ } _
      refine rdH (i := 7) (by kernel_rfl) rfl (fun KK hK => ?_)
      obtain ⟨vr, y4, hr, ho, hg, hl⟩ := appInI y3 wr.heap.size _ K gl E x I.out.hb.size (by omega) I.out.row (I.out.lit _ rfl).1
      obtain ⟨arb, crb, rfl⟩ := ho.form
      replace I : Hid (InsJ wr y4 3 1 (.slice arb (K + 1) crb) (K + 1) (inF (updE E K x)) (some gl) (inVI x)) := I.out.grow ho hg hl
      rw [if_pos (by rfl)]
      refine Lib.wp_append_run _ (.tmp 24) (.tmp 26) 29 29 rfl (.slice ara K cra) (.slice (some ⟨gl, 0, none⟩) 1 1) rfl rfl _ _ (hr _) ?_
      replace H : Below wr.heap.size wr y4 := I.out.hb
      refine hK.out _ _ H (fun _ => ?_)
      clear hK KK hr ho hg hl
      change wpAnyH _ _ _ _ _ _ _ { tmps := #[_,_,_,_,_,_,_,_,_,_,_,_,_,_,_,_,_,_,_,_,_,_,_,_,_,_,_,_,_,_,_,_], defers := _ } _
      refine rdH (i := 11) (by kernel_rfl) rfl (fun KK hK => ?_)
      obtain ⟨vr, y5, hr, ho, hg, hl⟩ := allIn y4 wr.heap.size _ (K + 1) (updE E K x) (cutA a c K 1) (n - K) (c - K) (fun i => E (K + i)) I.out.hb.size (by omega) I.out.row (EC.out.below I.out.hb) (cutA_zero SP.out _ _)
      rw [← ins_cat, show K + 1 + (n - K) = n + 1 by omega] at ho
      obtain ⟨arc, crc, rfl⟩ := ho.form
      replace I : Hid (InsJ wr y5 3 1 (.slice arc (n + 1) crc) (n + 1) (inF (insE E K x)) (some gl) (inVI x)) := I.out.grow ho hg hl
      rw [if_pos (by rfl)]
      refine Lib.wp_append_run _ (.tmp 27) (.tmp 30) 29 29 rfl (.slice arb (K + 1) crb) (.slice (cutA a c K 1) (n - K) (c - K)) rfl rfl _ _ (hr _) ?_
      replace H : Below wr.heap.size wr y5 := I.out.hb
      refine hK.out _ _ H (fun _ => ?_)
      clear hK KK hr ho hg hl
      change wpAnyH _ _ _ _ _ _ _ { tmps := #[_,_,_,_,_,_,_,_,_,_,_,_,_,_,_,_,_,_,_,_,_,_,_,_,_,_,_,_,_,_,_,_], defers := _ } _
      refine tkH (i := 12) (v := .slice arc (n + 1) crc) rfl (by kernel_rfl) (by rfl) ?_ H ?_
      ·intro w' hSw; clear hSw; go_simp
      change wpAnyH _ _ _ _ _ _ _ { tmps := #[_,_,_,_,_,_,_,_,_,_,_,_,_,_,_,_,_,_,_,_,_,_,_,_,_,_,_,_,_,_,_,_], defers := _ } _
      refine wpAnyH_done (by kernel_rfl) ?_ _
      refine NoPanic.normal ?_
      have Q : Hid ((∃ b d, Ending.returned (.slice arc (n + 1) crc) = .returned (.slice b (n + 1) d) ∧ IE y5 wr.heap.size (.slice b (n + 1) d) (n + 1) (insE E K x)) ∧ Below wr.heap.size wr y5) := ⟨⟨_, _, rfl, I.out.row⟩, I.out.hb⟩
      clear I H ER EC CT CF SP REST
      go_wp2
      go_ret
      exact Q.out
    ·skip
     replace I : Hid (InsJ wr (y0.alloc (.cells #[.int .i64 x] 3)) 3 1 (.slice none 0 0) 0 (inF E) (some y0.heap.size) (inVI x)) := I.out.lit1 #[.int .i64 x] (fun j hj => (by obtain rfl : j = 0 := (by omega); rfl))
     go_simp
     replace H : Below wr.heap.size wr (y0.alloc (.cells #[.int .i64 x] 3)) := I.out.hb
     refine hK.out _ _ H (fun _ => ?_)
     clear hK KK
     generalize (y0.alloc (.cells #[.int .i64 x] 3)) = y1 at *
     generalize y0.heap.size = gl at *
     change wpAnyH _ _ _ _ _ _ _ { tmps := #[_,_,_,_,_,_,_,_,_,_,_,_,_,_,_,_,_,_,_,_,_,_,_,_,_,_,_,_,_,_,_,_], defers := _ } _
     refine rdH (i := 0) (by kernel_rfl) rfl (fun KK hK => ?_)
     replace I : Hid (InsJ wr (y1.alloc (.cells #[] 3)) 3 1 (.slice (some ⟨y1.heap.size, 0, none⟩) 0 0) 0 (inF E) (some gl) (inVI x)) := I.out.lit0
     go_simp
     replace H : Below wr.heap.size wr (y1.alloc (.cells #[] 3)) := I.out.hb
     refine hK.out _ _ H (fun _ => ?_)
     clear hK KK
     generalize (y1.alloc (.cells #[] 3)) = y2 at *
     generalize y1.heap.size = gr at *
     change wpAnyH _ _ _ _ _ _ _ { tmps := #[_,_,_,_,_,_,_,_,_,_,_,_,_,_,_,_,_,_,_,_,_,_,_,_,_,_,_,_,_,_,_,_], defers := _ } _
     refine rdH (i := 4) (by kernel_rfl) rfl (fun KK hK => ?_)
     obtain ⟨vr, y3, hr, ho, hg, hl⟩ := allIn y2 wr.heap.size _ 0 E a K c E I.out.hb.size (by omega) I.out.row ((ER.out.less KN.out).below I.out.hb) SP.out.z
     rw [Nat.zero_add, catE_zero] at ho
     obtain ⟨ara, cra, rfl⟩ := ho.form
     replace I : Hid (InsJ wr y3 3 1 (.slice ara K cra) K (inF E) (some gl) (inVI x)) := I.out.grow ho hg hl
     rw [if_pos (by rfl)]
     refine Lib.wp_append_run _ (.tmp 20) (.tmp 23) 29 29 rfl (.slice (some ⟨gr, 0, none⟩) 0 0) (.slice a K c) rfl rfl _ _ (hr _) ?_
     replace H : Below wr.heap.size wr y3 := I.out.hb
     refine hK.out _ _ H (fun _ => ?_)
     clear hK KK hr ho hg hl
     change wpAnyH _ _ _ _ _ _ _ { tmps := #[_,_,_,_,_,_,_,_,_,_,_,_,_,_,_,_,_,_,_,_,_,_,_,_,_,_,_,_,_,_,_,_], defers := _ } _
     refine rdH (i := 7) (by kernel_rfl) rfl (fun KK hK => ?_)
     obtain ⟨vr, y4, hr, ho, hg, hl⟩ := appInI y3 wr.heap.size _ K gl E x I.out.hb.size (by omega) I.out.row (I.out.lit _ rfl).1
     obtain ⟨arb, crb, rfl⟩ := ho.form
     replace I : Hid (InsJ wr y4 3 1 (.slice arb (K + 1) crb) (K + 1) (inF (updE E K x)) (some gl) (inVI x)) := I.out.grow ho hg hl
     rw [if_pos (by rfl)]
     refine Lib.wp_append_run _ (.tmp 24) (.tmp 26) 29 29 rfl (.slice ara K cra) (.slice (some ⟨gl, 0, none⟩) 1 1) rfl rfl _ _ (hr _) ?_
     replace H : Below wr.heap.size wr y4 := I.out.hb
     refine hK.out _ _ H (fun _ => ?_)
     clear hK KK hr ho hg hl
     change wpAnyH _ _ _ _ _ _ _ { tmps := #[_,_,_,_,_,_,_,_,_,_,_,_,_,_,_,_,_,_,_,_,_,_,_,_,_,_,_,_,_,_,_,_], defers := _ } _
     refine rdH (i := 11) (by kernel_rfl) rfl (fun KK hK => ?_)
     obtain ⟨vr, y5, hr, ho, hg, hl⟩ := allIn y4 wr.heap.size _ (K + 1) (updE E K x) (cutA a c K 1) (n - K) (c - K) (fun i => E (K + i)) I.out.hb.size (by omega) I.out.row (EC.out.below I.out.hb) (cutA_zero SP.out _ _)
     rw [← ins_cat, show K + 1 + (n - K) = n + 1 by omega] at ho
     obtain ⟨arc, crc, rfl⟩ := ho.form
     replace I : Hid (InsJ wr y5 3 1 (.slice arc (n + 1) crc) (n + 1) (inF (insE E K x)) (some gl) (inVI x)) := I.out.grow ho hg hl
     rw [if_pos (by rfl)]
     refine Lib.wp_append_run _ (.tmp 27) (.tmp 30) 29 29 rfl (.slice arb (K + 1) crb) (.slice (cutA a c K 1) (n - K) (c - K)) rfl rfl _ _ (hr _) ?_
     replace H : Below wr.heap.size wr y5 := I.out.hb
     refine hK.out _ _ H (fun _ => ?_)
     clear hK KK hr ho hg hl
     change wpAnyH _ _ _ _ _ _ _ { tmps := #[_,_,_,_,_,_,_,_,_,_,_,_,_,_,_,_,_,_,_,_,_,_,_,_,_,_,_,_,_,_,_,_], defers := _ } _
     refine tkH (i := 12) (v := .slice arc (n + 1) crc) rfl (by kernel_rfl) (by rfl) ?_ H ?_
     ·intro w' hSw; clear hSw; go_simp
     change wpAnyH _ _ _ _ _ _ _ { tmps := #[_,_,_,_,_,_,_,_,_,_,_,_,_,_,_,_,_,_,_,_,_,_,_,_,_,_,_,_,_,_,_,_], defers := _ } _
     refine wpAnyH_done (by kernel_rfl) ?_ _
     refine NoPanic.normal ?_
     have Q : Hid ((∃ b d, Ending.returned (.slice arc (n + 1) crc) = .returned (.slice b (n + 1) d) ∧ IE y5 wr.heap.size (.slice b (n + 1) d) (n + 1) (insE E K x)) ∧ Below wr.heap.size wr y5) := ⟨⟨_, _, rfl, I.out.row⟩, I.out.hb⟩
     clear I H ER EC CT CF SP REST
     go_wp2
     go_ret
     exact Q.out
end Go.Proofs.Ytedncfcmhaaobaa
namespace Go.Proofs.Ytedncfcmhaaobaa
open Go.ChangeShapes Go.WideShapes Go.ChangeAt Go.RowKit
set_option linter.unusedVariables false
theorem EO.apart {w : World} {B B' : Nat} {t t' : TypeId} {s s' n n' : Nat} {v v' : Value} {F F' : Nat → Nat → Value} (h : EO w B t s v n F) (h' : EO w B' t' s' v' n' F') (ht : t ≠ t') (g : Nat) (e : v.ownBlock = some g) : v'.ownBlock ≠ some g := fun e' => by
 obtain ⟨hl, ⟨h1, _⟩ | ⟨g1, cap, cur, hv, _, hh, _⟩⟩ := h
 ·rw [h1] at e; cases e
 ·obtain ⟨hl', ⟨h1', _⟩ | ⟨g2, cap', cur', hv', _, hh', _⟩⟩ := h'
  ·rw [h1'] at e'; cases e'
  ·rw [hv] at e
   rw [hv'] at e'
   have e1 : g1 = g := Option.some.inj e
   have e2 : g2 = g := Option.some.inj e'
   rw [e1] at hh
   rw [e2, hh] at hh'
   cases hh'
   exact ht rfl
structure SvO (w : World) (B : Nat) (s : Sv) (vr vw vq : Value) (VR VW VQ : Nat → Value) : Prop where
 r : EO w B 43 8 vr s.n (rpF s.R VR)
 x : EO w B 37 5 vw s.m (woF s.W VW)
 q : EO w B 90 5 vq s.l (roF s.Q VQ)
 e : ∀ i, i < s.n → IE w B (VR i) (s.R i).ne (s.R i).E
 a : ∀ i, i < s.m → IE w B (VW i) (s.W i).ne (s.W i).E
 f : ∀ i, i < s.l → IE w B (VQ i) (s.Q i).ne (s.Q i).E
theorem SvO.below {w w' : World} {B : Nat} {s : Sv} {vr vw vq : Value} {VR VW VQ : Nat → Value} (h : SvO w B s vr vw vq VR VW VQ) (hb : Below w.heap.size w w') : SvO w' B s vr vw vq VR VW VQ :=
 ⟨h.r.below hb, h.x.below hb, h.q.below hb, fun i hi => EO.below (h.e i hi) hb, fun i hi => EO.below (h.a i hi) hb, fun i hi => EO.below (h.f i hi) hb⟩
theorem SvO.mono {w : World} {B B' : Nat} {s : Sv} {vr vw vq : Value} {VR VW VQ : Nat → Value} (h : SvO w B s vr vw vq VR VW VQ) (hB : B' ≤ B) : SvO w B' s vr vw vq VR VW VQ :=
 ⟨h.r.mono hB, h.x.mono hB, h.q.mono hB, fun i hi => EO.mono (h.e i hi) hB, fun i hi => EO.mono (h.a i hi) hB, fun i hi => EO.mono (h.f i hi) hB⟩
def SvD (s : Sv) (VR VW VQ : Nat → Value) : Prop :=
 (∀ i j g, i < s.n → j < s.n → (VR i).ownBlock = some g → (VR j).ownBlock = some g → i = j) ∧
 (∀ i j g, i < s.m → j < s.m → (VW i).ownBlock = some g → (VW j).ownBlock = some g → i = j) ∧
 (∀ i j g, i < s.l → j < s.l → (VQ i).ownBlock = some g → (VQ j).ownBlock = some g → i = j) ∧
 (∀ i j g, i < s.n → j < s.m → (VR i).ownBlock = some g → (VW j).ownBlock ≠ some g) ∧
 (∀ i j g, i < s.n → j < s.l → (VR i).ownBlock = some g → (VQ j).ownBlock ≠ some g) ∧
 (∀ i j g, i < s.m → j < s.l → (VW i).ownBlock = some g → (VQ j).ownBlock ≠ some g)
end Go.Proofs.Ytedncfcmhaaobaa
namespace Go.Proofs.Ytedncfcmhaaobaa
open Go.ChangeShapes Go.WideShapes Go.ChangeAt Go.RowKit
set_option linter.unusedVariables false
theorem Try.infoWo : (Try.prog.info? 37).map (fun i => (i.zero, i.size, i.bytes)) = some (some (.agg #[.int .i64 0, .int .i64 0, .slice none 0 0, .int .i64 0, .int .i64 0]), 5, 56) := by kernel_rfl
set_option maxRecDepth 100000 in
theorem appWo (w : World) (B : Nat) (v : Value) (n q : Nat) (R : Nat → Wo) (V : Nat → Value) (x : Wo) (y : Value) (hy : y.oneCell' = true) (hB : B ≤ w.heap.size) (hn : n ≤ 100000) (h : EO w B 37 5 v n (woF R V)) (hx : ∀ j, j < 5 → w.cell? ⟨q, 0 + j, none⟩ = some (woV x y j)) :
  ∃ v' w', (∀ ty, (Builtin.append_ #[25, 25] ty #[v, .slice (some ⟨q, 0, none⟩) 1 1]).run Try.prog w = .ok v' w') ∧ EO w' B 37 5 v' (n + 1) (woF (updE R n x) (updE V n y)) ∧ w.grownBy w' v.ownBlock ∧ (v'.ownBlock = v.ownBlock ∨ v'.ownBlock = some w.heap.size) := by
 obtain ⟨i, hi, hz, hsz, hby⟩ := info_parts Try.infoWo
 obtain ⟨v', w', hr, ho, hg, _, hloc⟩ := run_append_own_at (P := Try.prog) w B 25 25 37 i _ 5 56 Try.underlying25 hi hz hsz hby rfl (by decide) v n _ h ⟨q, 0, none⟩ 1 1 ((List.range 5).map (woV x y)) (by simp) (fun j u hj => by
  rw [Go.WideShapes.add_plain]
  rw [List.getElem?_map, Option.map_eq_some_iff] at hj
  obtain ⟨b, hb, rfl⟩ := hj
  obtain ⟨hj', rfl⟩ := List.getElem?_eq_some_iff.1 hb
  rw [List.getElem_range]
  exact hx j (by simpa using hj')) (fun u hu => by
   obtain ⟨j, hj, rfl⟩ := List.mem_map.1 hu
   have := List.mem_range.1 hj
   rcases (show j = 0 ∨ j = 1 ∨ j = 2 ∨ j = 3 ∨ j = 4 by omega) with rfl | rfl | rfl | rfl | rfl
   all_goals first | rfl | exact hy) (by unfold maxLen; omega) (by omega) hB
 refine ⟨v', w', fun ty => hr, ?_, hg, hloc⟩
 unfold EO
 rw [elv_snoc, elv_congr (G := woF R V) (fun i hi j hj => by unfold woF updE; rw [if_neg (by omega), if_neg (by omega)])]
 have e : (List.range 5).map (woF (updE R n x) (updE V n y) n) = (List.range 5).map (woV x y) := by unfold woF updE; simp
 rw [e]
 exact ho
theorem Try.infoRo : (Try.prog.info? 90).map (fun i => (i.zero, i.size, i.bytes)) = some (some (.agg #[.slice none 0 0, .int .i64 0, .int .i64 0, .int .i64 0, .int .i64 0]), 5, 56) := by kernel_rfl
set_option maxRecDepth 100000 in
theorem appRo (w : World) (B : Nat) (v : Value) (n q : Nat) (R : Nat → Ro) (V : Nat → Value) (x : Ro) (y : Value) (hy : y.oneCell' = true) (hB : B ≤ w.heap.size) (hn : n ≤ 100000) (h : EO w B 90 5 v n (roF R V)) (hx : ∀ j, j < 5 → w.cell? ⟨q, 0 + j, none⟩ = some (roV x y j)) :
  ∃ v' w', (∀ ty, (Builtin.append_ #[26, 26] ty #[v, .slice (some ⟨q, 0, none⟩) 1 1]).run Try.prog w = .ok v' w') ∧ EO w' B 90 5 v' (n + 1) (roF (updE R n x) (updE V n y)) ∧ w.grownBy w' v.ownBlock ∧ (v'.ownBlock = v.ownBlock ∨ v'.ownBlock = some w.heap.size) := by
 obtain ⟨i, hi, hz, hsz, hby⟩ := info_parts Try.infoRo
 obtain ⟨v', w', hr, ho, hg, _, hloc⟩ := run_append_own_at (P := Try.prog) w B 26 26 90 i _ 5 56 Try.underlying26 hi hz hsz hby rfl (by decide) v n _ h ⟨q, 0, none⟩ 1 1 ((List.range 5).map (roV x y)) (by simp) (fun j u hj => by
  rw [Go.WideShapes.add_plain]
  rw [List.getElem?_map, Option.map_eq_some_iff] at hj
  obtain ⟨b, hb, rfl⟩ := hj
  obtain ⟨hj', rfl⟩ := List.getElem?_eq_some_iff.1 hb
  rw [List.getElem_range]
  exact hx j (by simpa using hj')) (fun u hu => by
   obtain ⟨j, hj, rfl⟩ := List.mem_map.1 hu
   have := List.mem_range.1 hj
   rcases (show j = 0 ∨ j = 1 ∨ j = 2 ∨ j = 3 ∨ j = 4 by omega) with rfl | rfl | rfl | rfl | rfl
   all_goals first | rfl | exact hy) (by unfold maxLen; omega) (by omega) hB
 refine ⟨v', w', fun ty => hr, ?_, hg, hloc⟩
 unfold EO
 rw [elv_snoc, elv_congr (G := roF R V) (fun i hi j hj => by unfold roF updE; rw [if_neg (by omega), if_neg (by omega)])]
 have e : (List.range 5).map (roF (updE R n x) (updE V n y) n) = (List.range 5).map (roV x y) := by unfold roF updE; simp
 rw [e]
 exact ho
end Go.Proofs.Ytedncfcmhaaobaa
namespace Go.Proofs.Ytedncfcmhaaobaa
open Go.ChangeShapes Go.WideShapes Go.ChangeAt Go.RowKit
set_option linter.unusedVariables false
end Go.Proofs.Ytedncfcmhaaobaa
