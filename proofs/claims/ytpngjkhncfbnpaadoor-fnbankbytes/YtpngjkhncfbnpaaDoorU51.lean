/-
  Texts of the proof, joined: RbCode.
-/
import Derived.Test.YtpngjkhncfbnpaaDoorU28
import Derived.Test.YtpngjkhncfbnpaaDoorU45
import Derived.Test.YtpngjkhncfbnpaaDoorU47
import Derived.Test.YtpngjkhncfbnpaaDoorU49
import Derived.Test.YtpngjkhncfbnpaaDoorU48
import Derived.Test.YtpngjkhncfbnpaaDoorU50
namespace Go.Proofs.YtpngjkhncfbnpaaDoor
open Go.ChangeShapes Go.WideShapes Go.ChangeAt Go.RowKit
set_option linter.unusedVariables false
theorem isRow_capB {k : IntKind} {w : World} {a : Option Addr} {len cap : Nat} {zs : List Int} (h : IsRow k w a len cap zs) : len ≤ cap := by
  rcases h with ⟨_, h1, h2, _⟩ | ⟨x, _, hl, _⟩
  · omega
  · exact hl
theorem RL.cap {w : World} {B g c : Nat} {L : List Nat} (h : RL w B g c L) : L.length ≤ c := by
  obtain ⟨hl, ⟨h1, _⟩ | ⟨g', cap, cur, hv, hB, hh, hs, hcap, _⟩⟩ := h
  · cases h1
  · cases hv
    first | exact hcap | omega
theorem conv0 (a : Option Addr) (c : Nat) (w : World) : (convert 40 9 (.slice a 0 c)).run Tryd.prog w = .ok (.string ⟨#[]⟩) w := by
  rw [run_convert_bytes_string w 40 9 5 a 0 c Tryd.underlying40 Tryd.underlying5 Tryd.underlying9]
  cases a <;> rfl
set_option maxRecDepth 100000 in
theorem implReadBank_longB (a : Option Addr) (N c : Nat) (hN : 65536 < N) (w : World) : Calls Tryd.prog 28 #[.slice a N c] w fun e w' => RetNo e 2 ∧ Below w.heap.size w w' := by
  have n1 : (65536 : Int) < (N : Int) := by omega
  have X : Hid (Box2 (w.alloc (.cells #[.slice none 0 0, .slice none 0 0] 46)) w.heap.size 46 (.slice none 0 0) (.slice none 0 0)) := Box2.made _ _ _ _
  go_enter Tryd.func28, Tryd.ntmps28
  go_wp2
  exact ret_cell2 (b := w.heap.size) Tryd.results28 rfl rfl (Box2.loadB X.out) ⟨rfl, (Below.refl _ _).alloc (Nat.le_refl _) _⟩
set_option maxRecDepth 100000 in
theorem specReadBank_longB (a : Option Addr) (N c : Nat) (hN : 65536 < N) (w : World) : Calls Tryd.prog 29 #[.slice a N c] w fun e w' => RetNo e 2 ∧ Below w.heap.size w w' := by
  have n1 : (65536 : Int) < (N : Int) := by omega
  have X : Hid (Box2 (w.alloc (.cells #[.slice none 0 0, .slice none 0 0] 46)) w.heap.size 46 (.slice none 0 0) (.slice none 0 0)) := Box2.made _ _ _ _
  go_enter Tryd.func29, Tryd.ntmps29
  go_wp2
  exact ret_cell2 (b := w.heap.size) Tryd.results29 rfl rfl (Box2.loadB X.out) ⟨rfl, (Below.refl _ _).alloc (Nat.le_refl _) _⟩
set_option maxRecDepth 100000 in
theorem specReadBank_nil (a : Option Addr) (c : Nat) (w : World) : Calls Tryd.prog 29 #[.slice a 0 c] w fun e w' => RetNo e 3 ∧ Below w.heap.size w w' := by
  have X : Hid (Box2 ((((w.alloc (.cells #[.slice none 0 0, .slice none 0 0] 46)).alloc (.cells #[] 54)).alloc (.cells #[] 100)).alloc (.cells #[.slice (some ⟨w.heap.size + 1, 0, none⟩) 0 0, .slice (some ⟨w.heap.size + 1 + 1, 0, none⟩) 0 0] 46)) w.heap.size 46 (.slice none 0 0) (.slice none 0 0)) := (((Box2.made _ _ _ _).alloc _).alloc _).alloc _
  have AB : Hid (Below w.heap.size w ((((w.alloc (.cells #[.slice none 0 0, .slice none 0 0] 46)).alloc (.cells #[] 54)).alloc (.cells #[] 100)).alloc (.cells #[.slice (some ⟨w.heap.size + 1, 0, none⟩) 0 0, .slice (some ⟨w.heap.size + 1 + 1, 0, none⟩) 0 0] 46))) := ((((Below.refl _ _).alloc (Nat.le_refl _) _).alloc (by simp) _).alloc (by simp; omega) _).alloc (by simp; omega) _
  have hcv := conv0 a c
  have r0 := X.out.c0
  have r1 := X.out.c1
  have f0 := X.out.fr 0
  have f1 := X.out.fr 1
  go_enter Tryd.func29, Tryd.ntmps29
  go_wp2
  generalize ((((w.alloc (.cells #[.slice none 0 0, .slice none 0 0] 46)).alloc (.cells #[] 54)).alloc (.cells #[] 100)).alloc (.cells #[.slice (some ⟨w.heap.size + 1, 0, none⟩) 0 0, .slice (some ⟨w.heap.size + 1 + 1, 0, none⟩) 0 0] 46)) = v at *
  exact ret_cell2 (b := w.heap.size) Tryd.results29 rfl rfl (Box2.loadB X.out) ⟨rfl, AB.out⟩
def RbA (w' : World) (e : Ending) (d : Bk) (cd : Int) : Prop := ∃ a0 x0 a1 x1, e = .returned (.tuple #[.agg #[.slice a0 d.nr x0, .slice a1 d.ns x1], .int .i64 cd]) ∧ BankV w' d a0 a1
theorem RbA.ofRet {w w' : World} {e : Ending} {d : Bk} (h : RetBk w w' e d) : RbA w' e d 0 := by
  obtain ⟨a0, c0, a1, c1, he, h0, h1, hn⟩ := h
  exact ⟨a0, c0, a1, c1, he, h0.els, h1.els⟩
theorem RbA.ofNo {w' : World} {e : Ending} {cd : Int} (h : RetNo e cd) : RbA w' e bkZ cd := ⟨none, 0, none, 0, h, fun i hi => absurd hi (Nat.not_lt_zero i), fun i hi => absurd hi (Nat.not_lt_zero i)⟩
theorem BankV.congrB {w : World} {b d : Bk} {a0 a1 : Option Addr} (h : BankV w b a0 a1) (hn : d.nr = b.nr) (hs : d.ns = b.ns) (hr : ∀ i, i < b.nr → b.R i = d.R i) (hq : ∀ i, i < b.ns → b.S i = d.S i) : BankV w d a0 a1 := by
  refine ⟨?_, ?_⟩
  · rw [hn]
    exact fun i hi => by
      obtain ⟨g, o, ha, hc⟩ := h.1 i hi
      exact ⟨g, o, ha, fun j hj => by rw [hc j hj]; unfold rgF; rw [hr i hi]⟩
  · rw [hs]
    exact fun i hi => by
      obtain ⟨g, o, ha, hc⟩ := h.2 i hi
      exact ⟨g, o, ha, fun j hj => by rw [hc j hj]; unfold seF; rw [hq i hi]⟩
theorem rb_back (d : Bk) (hd : d.Ok) (g c : Nat) (hc : (bankL d).length ≤ c) (w : World) (h : Code8 w (some ⟨g, 0, none⟩) (bankL d).length (bkF d)) (hT : TabW w) (hf : ∀ i, bkF d i < 256) :
    Calls Tryd.prog 28 #[.slice (some ⟨g, 0, none⟩) (bankL d).length c] w fun e w' => RbA w' e d 0 ∧ Below w.heap.size w w' := by
  have hl := bankL_length hd
  have h1 := hd.1.1
  have h2 := hd.2.1
  refine (implReadBank_is (some ⟨g, 0, none⟩) (bankL d).length c (bkF d) hf (by omega) hc w h hT).mono ?_
  rintro e w' ⟨⟨_, hr⟩ | ⟨hn, _⟩, hb⟩
  · obtain ⟨a0, x0, a1, x1, he, hv⟩ := RbA.ofRet hr
    refine ⟨⟨a0, x0, a1, x1, ?_, hv.congrB (pNr_bk hd).symm (pNs_bk hd).symm (fun i hi => pRg_bk hd i (by rw [← pNr_bk hd]; exact hi)) (fun i hi => pSe_bk hd i (by rw [← pNs_bk hd]; exact hi))⟩, hb⟩
    rw [he]
    show _ = Ending.returned (.tuple #[.agg #[.slice a0 d.nr x0, .slice a1 d.ns x1], .int .i64 0])
    rw [← pNr_bk hd, ← pNs_bk hd]
    rfl
  · exact absurd ⟨whole_bk hd, pB_ok hd⟩ hn
theorem rb_code (a : Option Addr) (N c : Nat) (z : Nat → Nat) (hz : ∀ i, z i < 256) (hcp : N ≤ c) (ha : a = none → N = 0) : ∃ (d : Bk) (cd : Int), d.nr ≤ 1000 ∧ d.ns ≤ 1000 ∧ (cd = 0 → d.Ok ∧ bankL d = seg z 0 N ∧ 0 < N) ∧
    (∀ w : World, Code8 w a N z → TabW w → Calls Tryd.prog 28 #[.slice a N c] w fun e w' => RbA w' e d cd ∧ Below w.heap.size w w') ∧
    (∀ w : World, Code8 w a N z → Calls Tryd.prog 29 #[.slice a N c] w fun e w' => RbA w' e d cd ∧ Below w.heap.size w w') := by
  by_cases hN : N ≤ 65536
  · have hs := kstr_size z 0 N
    have hB : ∀ i, i < N → strB (kstr z 0 N) i = z i := fun i hi => by rw [strB_kstr z 0 N i (by rw [Nat.zero_add]; exact hz i) hi, Nat.zero_add]
    -- all told of the text
    obtain ⟨T, hT⟩ : ∃ T, T = kstr z 0 N := ⟨_, rfl⟩
    rw [← hT] at hs hB
    have hsg : seg (strB T) 0 N = seg z 0 N := by
      unfold seg
      exact List.map_congr_left (fun i hi => by rw [Nat.zero_add]; exact hB i (List.mem_range.1 hi))
    subst hs
    have cg : ∀ w : World, Code8 w a T.size z → Code8 w a T.size (strB T) := fun w h => h.congr (fun i hi => by rw [hB i hi])
    have hI : ∀ w : World, Code8 w a T.size z → TabW w → Calls Tryd.prog 28 #[.slice a T.size c] w fun e w' => (((Whole T.size (strB T) ∧ (pB (strB T)).Ok) ∧ RetBk w w' e (pB (strB T))) ∨ (¬ (Whole T.size (strB T) ∧ (pB (strB T)).Ok) ∧ RetNo e 3)) ∧ Below w.heap.size w w' := fun w h hT => implReadBank_is a T.size c (strB T) (strB_lt T) hN hcp w (cg w h) hT
    have hS : ∀ w : World, Code8 w a T.size z → Calls Tryd.prog 29 #[.slice a T.size c] w fun e w' => (((Whole T.size (strB T) ∧ (pB (strB T)).Ok) ∧ RetBk w w' e (pB (strB T))) ∨ (¬ (Whole T.size (strB T) ∧ (pB (strB T)).Ok) ∧ RetNo e 3)) ∧ Below w.heap.size w w' := fun w h => by
      rcases a with _ | ⟨b, o, q⟩
      · have h0 := ha rfl
        rw [h0]
        refine (specReadBank_nil none c w).mono fun e w' h => ⟨.inr ⟨fun q => ?_, h.1⟩, h.2⟩
        have := q.1
        unfold Whole at this
        omega
      · by_cases h0 : T.size = 0
        · rw [h0]
          refine (specReadBank_nil _ c w).mono fun e w' h => ⟨.inr ⟨fun q => ?_, h.1⟩, h.2⟩
          have := q.1
          unfold Whole at this
          omega
        · obtain ⟨b', o', e, _⟩ := h.opened (by omega)
          rw [e] at h ⊢
          exact specReadBank_is T b' o' c hN w (by rw [← e] at h; have := cg w h; rwa [e] at this)
    by_cases hG : Whole T.size (strB T) ∧ (pB (strB T)).Ok
    · refine ⟨pB (strB T), 0, by have := hG.2.1.1; omega, by have := hG.2.2.1; omega, fun _ => ⟨hG.2, ?_, ?_⟩, fun w h hT => (hI w h hT).mono ?_, fun w h => (hS w h).mono ?_⟩
      · rw [← hsg]
        exact bytes_whole (strB T) (strB_lt T) T.size hG.1
      · have := hG.1
        unfold Whole at this
        omega
      · rintro e w' ⟨⟨_, hr⟩ | ⟨hn, _⟩, hb⟩
        · exact ⟨RbA.ofRet hr, hb⟩
        · exact absurd hG hn
      · rintro e w' ⟨⟨_, hr⟩ | ⟨hn, _⟩, hb⟩
        · exact ⟨RbA.ofRet hr, hb⟩
        · exact absurd hG hn
    · refine ⟨bkZ, 3, by show 0 ≤ 1000; omega, by show 0 ≤ 1000; omega, fun q => absurd q (by decide), fun w h hT => (hI w h hT).mono ?_, fun w h => (hS w h).mono ?_⟩
      · rintro e w' ⟨⟨hn, _⟩ | ⟨_, hr⟩, hb⟩
        · exact absurd hn hG
        · exact ⟨RbA.ofNo hr, hb⟩
      · rintro e w' ⟨⟨hn, _⟩ | ⟨_, hr⟩, hb⟩
        · exact absurd hn hG
        · exact ⟨RbA.ofNo hr, hb⟩
  · refine ⟨bkZ, 2, by show 0 ≤ 1000; omega, by show 0 ≤ 1000; omega, fun q => absurd q (by decide), fun w h hT => (implReadBank_longB a N c (by omega) w).mono fun e w' h => ⟨RbA.ofNo h.1, h.2⟩, fun w h => (specReadBank_longB a N c (by omega) w).mono fun e w' h => ⟨RbA.ofNo h.1, h.2⟩⟩
end Go.Proofs.YtpngjkhncfbnpaaDoor
