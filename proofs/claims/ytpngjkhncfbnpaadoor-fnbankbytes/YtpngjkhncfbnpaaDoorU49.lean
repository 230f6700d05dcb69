/-
  Texts of the proof, joined: ReadBS.
-/
import Derived.Test.YtpngjkhncfbnpaaDoorU48
import Derived.Test.YtpngjkhncfbnpaaDoorU47
import Derived.Test.YtpngjkhncfbnpaaDoorU07
namespace Go.Proofs.YtpngjkhncfbnpaaDoor
open Go.ChangeShapes Go.WideShapes Go.ChangeAt Go.RowKit
set_option linter.unusedVariables false
def ReadA (w w' : World) (e : Ending) (N : Nat) (f : Nat → Nat) : Prop := ((Whole N f ∧ (pB f).Ok) ∧ RetBk w w' e (pB f)) ∨ (¬ (Whole N f ∧ (pB f).Ok) ∧ RetNo e 3)
set_option maxRecDepth 100000 in
set_option maxHeartbeats 1000000 in
theorem l06NumberL (t : ByteArray) (k : Nat) (ht : t.size = k) (hk : k ≤ 4) (w : World) :
    Calls Tryd.prog 67 #[.string t] w fun e w' => e = .returned (.int .i64 ((valN (strB t) k : Nat) : Int)) ∧ w = w' := by
  have hnb := valN_lt (strB t) (strB_lt t)
  go_enter Tryd.func67, Tryd.ntmps67
  go_wp2
  go_loopw [3, 4] (fun n i wr => ∃ q : Nat, q ≤ k ∧ i = .int .i64 (q : Int) ∧ n = .int .i64 ((valN (strB t) q : Nat) : Int) ∧ wr = w) (fun _ i _ => k - (intOf i).toNat)
  case atStart => exact ⟨0, by omega, rfl, rfl, rfl⟩
  case round =>
    obtain ⟨q, hq, rfl, rfl, rfl⟩ := hrel
    by_cases hlt : q < k
    · have hlt' : (q : Int) < (t.size : Int) := by omega
      have hqs : q < t.size := by omega
      have hq0 : (0 : Int) ≤ (q : Int) := by omega
      have es := strB_eq t q hqs
      have HN : Hid (valN (strB t) (q + 1) = valN (strB t) q * 256 + strB t q) := rfl
      have hl := strB_lt t q
      have hb2 : valN (strB t) q < 16777216 := Nat.lt_of_lt_of_le (hnb q) (by
        have : 256 ^ q ≤ 256 ^ 3 := Nat.pow_le_pow_right (by omega) (by omega)
        simpa using this)
      generalize valN (strB t) q = N at *
      generalize strB t q = S at *
      clear hnb
      go_wp2
      go_roundw
      case rel => exact ⟨q + 1, by omega, by go_num, numEq8 (by rw [HN.out]; push_cast; omega), trivial⟩
      case measure => simp [intOf]; omega
    · obtain rfl : q = k := by omega
      have hlt' : ¬ (q : Int) < (t.size : Int) := by omega
      clear hnb
      go_wp2
      go_ret
      exact ⟨rfl, rfl⟩
theorem valN_congr {g h : Nat → Nat} {k : Nat} (e : ∀ i, i < k → g i = h i) : valN g k = valN h k := by
  induction k with
  | zero => rfl
  | succ k ih =>
    unfold valN
    rw [ih (fun i hi => e i (by omega)), e k (by omega)]
theorem strB_cut (T : ByteArray) (o n j : Nat) (h : o + n ≤ T.size) (hj : j < n) : strB (T.extract o (o + n)) j = strB T (o + j) := by
  rw [kstr_extract T o n h, strB_kstr _ _ _ _ (strB_lt T _) hj]
theorem cut_size (T : ByteArray) (o n : Nat) (h : o + n ≤ T.size) : (T.extract o (o + n)).size = n := by rw [kstr_extract T o n h, kstr_size]
theorem cut_kstr (T : ByteArray) (o n : Nat) (h : o + n ≤ T.size) : T.extract o (o + n) = kstr (fun j => strB T (o + j)) 0 n := by
  rw [kstr_extract T o n h]
  exact kstr_congr (fun i hi => by rw [Nat.zero_add])
theorem code8_of_RL {w : World} {B g c : Nat} {L : List Nat} (h : RL w B g c L) : Code8 w (some ⟨g, 0, none⟩) L.length (fun i => L.getD i 0) := fun i hi => ⟨g, 0, rfl, by
  rw [Nat.zero_add, h.cell i hi]
  simp [hi]⟩
theorem text_yes (L : List Nat) (T : ByteArray) (h : L = seg (strB T) 0 T.size) : kstr (fun i => L.getD i 0) 0 L.length = T := by
  have hl : L.length = T.size := by rw [h, seg_length]
  rw [hl]
  refine Eq.trans (kstr_congr (fun i hi => ?_)) (kstr_self T)
  rw [h]
  unfold seg
  simp [hi]
theorem text_no (L : List Nat) (T : ByteArray) (hL : ∀ i, L.getD i 0 < 256) (h : kstr (fun i => L.getD i 0) 0 L.length = T) : L = seg (strB T) 0 T.size := by
  have e := strL_kstr (fun i => L.getD i 0) hL L.length
  rw [h, strL_at] at e
  rw [e]
  refine List.ext_getElem (by simp) (fun i h1 h2 => ?_)
  simp [h1]
theorem seg_lt {F : Nat → Nat} (hF : ∀ i, F i < 256) (o n : Nat) : ∀ x ∈ seg F o n, x < 256 := fun x hx => by
  unfold seg at hx
  obtain ⟨i, _, rfl⟩ := List.mem_map.1 hx
  exact hF _
theorem bankL_lt {F : Nat → Nat} (hF : ∀ i, F i < 256) (k m : Nat) (hk : k < 256) (hm : m < 256) (i : Nat) : (bankL (pK F k m)).getD i 0 < 256 := by
  rw [bankL_pK F hF]
  rcases Nat.lt_or_ge i ([k] ++ seg F 1 (37 * k) ++ [m] ++ seg F (1 + 37 * k + 1) (9 * m)).length with q | q
  · rw [List.getD_eq_getElem?_getD, List.getElem?_eq_getElem q, Option.getD_some]
    have := List.getElem_mem q
    simp only [List.mem_append, List.mem_cons, List.not_mem_nil, or_false] at this
    rcases this with ((h | h) | h) | h
    · rw [h]; exact hk
    · exact seg_lt hF _ _ _ h
    · rw [h]; exact hm
    · exact seg_lt hF _ _ _ h
  · rw [List.getD_eq_getElem?_getD, List.getElem?_eq_none q]
    simp
theorem EO.litS (w : World) (B : Nat) (t : TypeId) (s : Nat) (F : Nat → Nat → Value) (hB : B ≤ w.heap.size) : EO (w.alloc (.cells #[] t)) B t s (.slice (some ⟨w.heap.size, 0, none⟩) 0 0) 0 F := by
  have h : (w.alloc (.cells #[] t)).ownsRow B t s (.slice (some ⟨w.heap.size, 0, none⟩) 0 0) 0 [] := World.ownsRow_made w #[] 0 hB (Nat.zero_le _) (by simp)
  have e : elv s 0 F = [] := by unfold elv; simp
  unfold EO
  rw [e]
  exact h
set_option maxRecDepth 100000 in
set_option maxHeartbeats 16000000 in
theorem specReadBank_is (T : ByteArray) (b o c : Nat) (hN : T.size ≤ 65536) (w : World) (h : Code8 w (some ⟨b, o, none⟩) T.size (strB T)) :
    Calls Tryd.prog 29 #[.slice (some ⟨b, o, none⟩) T.size c] w fun e w' => ReadA w w' e T.size (strB T) ∧ Below w.heap.size w w' := by
  have n1 : ¬ (65536 : Int) < (T.size : Int) := by omega
  have HF : Hid (∀ i, strB T i < 256) := strB_lt T
  have HC : Hid (Code8 w (some ⟨b, o, none⟩) T.size (strB T)) := h
  have KS : Hid (∀ w : World, Code8 w (some ⟨b, o, none⟩) T.size (strB T) → (convert 40 9 (.slice (some ⟨b, o, none⟩) T.size c)).run Tryd.prog w = .ok (.string T) w) := fun w h => by
    have := kstr_of_code (c := c) h
    rwa [kstr_self] at this
  have AB : Hid (Below w.heap.size w ((((w.alloc (.cells #[.slice none 0 0, .slice none 0 0] 46)).alloc (.cells #[] 54)).alloc (.cells #[] 100)).alloc (.cells #[.slice (some ⟨w.heap.size + 1, 0, none⟩) 0 0, .slice (some ⟨w.heap.size + 1 + 1, 0, none⟩) 0 0] 46))) := ((((Below.refl w.heap.size w).alloc (Nat.le_refl _) _).alloc (by simp) _).alloc (by simp; omega) _).alloc (by simp; omega) _
  have X0 : Hid (Box2 ((((w.alloc (.cells #[.slice none 0 0, .slice none 0 0] 46)).alloc (.cells #[] 54)).alloc (.cells #[] 100)).alloc (.cells #[.slice (some ⟨w.heap.size + 1, 0, none⟩) 0 0, .slice (some ⟨w.heap.size + 1 + 1, 0, none⟩) 0 0] 46)) w.heap.size 46 (.slice none 0 0) (.slice none 0 0)) := (((Box2.made w _ _ _).alloc _).alloc _).alloc _
  have BV : Hid (Box2 ((((w.alloc (.cells #[.slice none 0 0, .slice none 0 0] 46)).alloc (.cells #[] 54)).alloc (.cells #[] 100)).alloc (.cells #[.slice (some ⟨w.heap.size + 1, 0, none⟩) 0 0, .slice (some ⟨w.heap.size + 1 + 1, 0, none⟩) 0 0] 46)) (w.heap.size + 1 + 1 + 1) 46 (.slice (some ⟨w.heap.size + 1, 0, none⟩) 0 0) (.slice (some ⟨w.heap.size + 1 + 1, 0, none⟩) 0 0)) := Box2.madeAt (by simp) _ _ _
  have RV : Hid (EO ((((w.alloc (.cells #[.slice none 0 0, .slice none 0 0] 46)).alloc (.cells #[] 54)).alloc (.cells #[] 100)).alloc (.cells #[.slice (some ⟨w.heap.size + 1, 0, none⟩) 0 0, .slice (some ⟨w.heap.size + 1 + 1, 0, none⟩) 0 0] 46)) (w.heap.size + 1) 54 3 (.slice (some ⟨w.heap.size + 1, 0, none⟩) 0 0) 0 (rgF (pRg (strB T)))) := by
    have h1 := EO.litS (w.alloc (.cells #[.slice none 0 0, .slice none 0 0] 46)) (w.heap.size + 1) 54 3 (rgF (pRg (strB T))) (by simp)
    rw [show (w.alloc (.cells #[.slice none 0 0, .slice none 0 0] 46)).heap.size = w.heap.size + 1 from by simp] at h1
    exact (h1.below ((Below.refl _ _).alloc (Nat.le_refl _) _)).below ((Below.refl _ _).alloc (Nat.le_refl _) _)
  have SV : Hid (EO ((((w.alloc (.cells #[.slice none 0 0, .slice none 0 0] 46)).alloc (.cells #[] 54)).alloc (.cells #[] 100)).alloc (.cells #[.slice (some ⟨w.heap.size + 1, 0, none⟩) 0 0, .slice (some ⟨w.heap.size + 1 + 1, 0, none⟩) 0 0] 46)) (w.heap.size + 1) 100 4 (.slice (some ⟨w.heap.size + 1 + 1, 0, none⟩) 0 0) 0 (seF (fun _ => seZ))) := by
    have h1 := EO.litS ((w.alloc (.cells #[.slice none 0 0, .slice none 0 0] 46)).alloc (.cells #[] 54)) (w.heap.size + 1) 100 4 (seF (fun _ => seZ)) (by simp)
    rw [show ((w.alloc (.cells #[.slice none 0 0, .slice none 0 0] 46)).alloc (.cells #[] 54)).heap.size = w.heap.size + 1 + 1 from by simp] at h1
    exact h1.below ((Below.refl _ _).alloc (Nat.le_refl _) _)
  have SZ : Hid (w.heap.size + 1 + 1 + 1 + 1 ≤ ((((w.alloc (.cells #[.slice none 0 0, .slice none 0 0] 46)).alloc (.cells #[] 54)).alloc (.cells #[] 100)).alloc (.cells #[.slice (some ⟨w.heap.size + 1, 0, none⟩) 0 0, .slice (some ⟨w.heap.size + 1 + 1, 0, none⟩) 0 0] 46)).heap.size) := by show _ ≤ _; simp
  have hcv := KS.out _ (HC.out.below AB.out)
  clear h
  by_cases n2 : T.size < 2
  · have n2' : (T.size : Int) < 2 := by omega
    have r0 := X0.out.c0
    have r1 := X0.out.c1
    have f0 := X0.out.fr 0
    have f1 := X0.out.fr 1
    have GD : Hid (¬ (Whole T.size (strB T) ∧ (pB (strB T)).Ok)) := fun q => by
      have := q.1
      unfold Whole at this
      omega
    go_enter Tryd.func29, Tryd.ntmps29
    go_wp2
    generalize ((((w.alloc (.cells #[.slice none 0 0, .slice none 0 0] 46)).alloc (.cells #[] 54)).alloc (.cells #[] 100)).alloc (.cells #[.slice (some ⟨w.heap.size + 1, 0, none⟩) 0 0, .slice (some ⟨w.heap.size + 1 + 1, 0, none⟩) 0 0] 46)) = v at *
    exact ret_cell2 (b := w.heap.size) Tryd.results29 rfl rfl (Box2.loadB X0.out) ⟨.inr ⟨GD.out, rfl⟩, AB.out⟩
  · have n2' : ¬ (T.size : Int) < 2 := by omega
    have i0 : 0 < T.size := by omega
    have es := strB_eq T 0 i0
    have hl := strB_lt T 0
    go_enter Tryd.func29, Tryd.ntmps29
    go_wp2
    generalize ((((w.alloc (.cells #[.slice none 0 0, .slice none 0 0] 46)).alloc (.cells #[] 54)).alloc (.cells #[] 100)).alloc (.cells #[.slice (some ⟨w.heap.size + 1, 0, none⟩) 0 0, .slice (some ⟨w.heap.size + 1 + 1, 0, none⟩) 0 0] 46)) = v at *
    have NB0 : Hid (∀ g, (Value.slice (some ⟨w.heap.size + 1, 0, none⟩) 0 0).ownBlock = some g → g ≠ w.heap.size + 1 + 1 + 1) := fun g e q => by have := Option.some.inj (show some (w.heap.size + 1) = some g from e); omega
    have NB1 : Hid (∀ g, (Value.slice (some ⟨w.heap.size + 1 + 1, 0, none⟩) 0 0).ownBlock = some g → g ≠ w.heap.size + 1 + 1 + 1) := fun g e q => by have := Option.some.inj (show some (w.heap.size + 1 + 1) = some g from e); omega
    have AP : Hid (∀ g, (Value.slice (some ⟨w.heap.size + 1, 0, none⟩) 0 0).ownBlock = some g → (Value.slice (some ⟨w.heap.size + 1 + 1, 0, none⟩) 0 0).ownBlock ≠ some g) := fun g e q => by
      have h1 := Option.some.inj (show some (w.heap.size + 1) = some g from e)
      have h2 := Option.some.inj (show some (w.heap.size + 1 + 1) = some g from q)
      omega
    have I0 : Hid (0 < T.size) := i0
    clear hcv es HC KS n2' n2 i0
    have HNR : Hid (pNr (strB T) = strB T 0) := pNr_at _
    generalize hx0 : strB T 0 = x0 at *
    clear hx0
    go_loopw [6, 7] (fun t i wr => ∃ (k : Nat) (v0 : Value), k ≤ x0 ∧ 1 + 37 * k ≤ T.size ∧ t = .int .i64 ((1 + 37 * k : Nat) : Int) ∧ i = .int .i64 ((x0 - k : Nat) : Int) ∧ (Box2 wr w.heap.size 46 (.slice none 0 0) (.slice none 0 0)) ∧ (Box2 wr (w.heap.size + 1 + 1 + 1) 46 v0 (.slice (some ⟨w.heap.size + 1 + 1, 0, none⟩) 0 0)) ∧ (EO wr (w.heap.size + 1) 54 3 v0 k (rgF (pRg (strB T)))) ∧ (EO wr (w.heap.size + 1) 100 4 (.slice (some ⟨w.heap.size + 1 + 1, 0, none⟩) 0 0) 0 (seF (fun _ => seZ))) ∧ (∀ g, v0.ownBlock = some g → g ≠ w.heap.size + 1 + 1 + 1) ∧ (∀ g, (Value.slice (some ⟨w.heap.size + 1 + 1, 0, none⟩) 0 0).ownBlock = some g → g ≠ w.heap.size + 1 + 1 + 1) ∧ (∀ g, v0.ownBlock = some g → (Value.slice (some ⟨w.heap.size + 1 + 1, 0, none⟩) 0 0).ownBlock ≠ some g) ∧ (w.heap.size + 1 + 1 + 1 + 1 ≤ wr.heap.size) ∧ (Below w.heap.size w wr)) (fun _ i _ => (intOf i).toNat)
    case atStart => exact ⟨0, _, by omega, by have := I0.out; omega, rfl, rfl, X0.out, BV.out, RV.out, SV.out, NB0.out, NB1.out, AP.out, SZ.out, AB.out⟩
    case round =>
      clear X0 BV RV SV NB0 NB1 AP SZ AB
      obtain ⟨k, v0, hk, hkN, rfl, rfl, X0, BV, RV, SV, NB0, NB1, AP, SZ, AB⟩ := hrel
      replace X0 : Hid (Box2 wr w.heap.size 46 (.slice none 0 0) (.slice none 0 0)) := X0
      replace BV : Hid (Box2 wr (w.heap.size + 1 + 1 + 1) 46 v0 (.slice (some ⟨w.heap.size + 1 + 1, 0, none⟩) 0 0)) := BV
      replace RV : Hid (EO wr (w.heap.size + 1) 54 3 v0 k (rgF (pRg (strB T)))) := RV
      replace SV : Hid (EO wr (w.heap.size + 1) 100 4 (.slice (some ⟨w.heap.size + 1 + 1, 0, none⟩) 0 0) 0 (seF (fun _ => seZ))) := SV
      replace NB0 : Hid (∀ g, v0.ownBlock = some g → g ≠ w.heap.size + 1 + 1 + 1) := NB0
      replace NB1 : Hid (∀ g, (Value.slice (some ⟨w.heap.size + 1 + 1, 0, none⟩) 0 0).ownBlock = some g → g ≠ w.heap.size + 1 + 1 + 1) := NB1
      replace AP : Hid (∀ g, v0.ownBlock = some g → (Value.slice (some ⟨w.heap.size + 1 + 1, 0, none⟩) 0 0).ownBlock ≠ some g) := AP
      replace SZ : Hid (w.heap.size + 1 + 1 + 1 + 1 ≤ wr.heap.size) := SZ
      replace AB : Hid (Below w.heap.size w wr) := AB
      obtain ⟨P, hP⟩ : ∃ P, P = 1 + 37 * k := ⟨_, rfl⟩
      have HP : Hid (P = 1 + 37 * k) := hP
      obtain ⟨I, hI⟩ : ∃ I, I = x0 - k := ⟨_, rfl⟩
      have HI : Hid (I = x0 - k) := hI
      rw [← hP, ← hI]
      have p0 : P ≤ T.size := by omega
      by_cases hlt : 0 < I ∧ P + 37 ≤ T.size
      · obtain ⟨q1, q2⟩ := hlt
        have q1' : (0 : Int) < (I : Int) := by omega
        have q2' : (P : Int) + 37 ≤ (T.size : Int) := by omega
        have pl : P < T.size := by clear hP hI; omega
        have es := strB_eq T P pl
        have pl' : (P : Int) < (T.size : Int) := by omega
        have pz : (0 : Int) ≤ (P : Int) := by omega
        have a1 : IntKind.i64.wrap ((P : Int) + 1) = ((P + 1 : Nat) : Int) := by rw [IntWalk.i64_in _ (by omega)]; omega
        have a5 : IntKind.i64.wrap ((P : Int) + 5) = ((P + 5 : Nat) : Int) := by rw [IntWalk.i64_in _ (by omega)]; omega
        have a37 : IntKind.i64.wrap ((P : Int) + 37) = ((P + 37 : Nat) : Int) := by rw [IntWalk.i64_in _ (by omega)]; omega
        have hl8 := strB_lt T P
        have NM : Hid (∀ w : World, Calls Tryd.prog 67 #[.string (T.extract (P + 1) (P + 5))] w fun e w' => e = .returned (.int .i64 ((valN (fun j => strB T (P + 1 + j)) 4 : Nat) : Int)) ∧ w = w') := fun w => by
          have := l06NumberL (T.extract (P + 1) (P + 1 + 4)) 4 (cut_size T (P + 1) 4 (by omega)) (by omega) w
          rw [valN_congr (h := fun j => strB T (P + 1 + j)) (fun j hj => strB_cut T (P + 1) 4 j (by omega) hj)] at this
          exact this
        obtain ⟨C, hC⟩ : ∃ C, C = valN (fun j => strB T (P + 1 + j)) 4 := ⟨_, rfl⟩
        rw [← hC] at NM
        obtain ⟨U, hU⟩ : ∃ U, U = T.extract (P + 5) (P + 37) := ⟨_, rfl⟩
        obtain ⟨V, hV⟩ : ∃ V, V = strB T P := ⟨_, rfl⟩
        have XR : Hid ((⟨(V : Int), (C : Int), U⟩ : Rg) = pRg (strB T) k) := by
          show _ = _
          have e3 : T.extract (P + 5) (P + 37) = kstr (fun j => strB T (P + 5 + j)) 0 32 := cut_kstr T (P + 5) 32 (by omega)
          unfold pRg
          rw [hU, e3, hC, hV, hP]
          simp [valN]
        rw [← hV] at es hl8
        have wV : IntKind.i64.wrap (V : Int) = (V : Int) := IntWalk.i64_in _ (by omega)
        have eU : T.extract (P + 5) (P + 37) = U := hU.symm
        have sl1 : ∀ w' : World, (Instr.slice 9 (.string T) (some (.int .i64 ((P : Int) + 1))) (some (.int .i64 ((P : Int) + 5))) none).run Tryd.prog w' = .ok (.string (T.extract (P + 1) (P + 5))) w' := fun w' => by
          have := run_slice_string (P := Tryd.prog) w' 9 T .i64 .i64 ((P : Int) + 1) ((P : Int) + 5) Tryd.underlying9 (by omega) (by omega) (by omega)
          rwa [show ((P : Int) + 1).toNat = P + 1 from by omega, show ((P : Int) + 5).toNat = P + 5 from by omega] at this
        have sl2 : ∀ w' : World, (Instr.slice 9 (.string T) (some (.int .i64 ((P : Int) + 5))) (some (.int .i64 ((P : Int) + 37))) none).run Tryd.prog w' = .ok (.string U) w' := fun w' => by
          have := run_slice_string (P := Tryd.prog) w' 9 T .i64 .i64 ((P : Int) + 5) ((P : Int) + 37) Tryd.underlying9 (by omega) (by omega) (by omega)
          rwa [show ((P : Int) + 5).toNat = P + 5 from by omega, show ((P : Int) + 37).toNat = P + 37 from by omega, eU] at this
        clear hC hU hV hP hI
        go_wp2_with fail
        have NB1x : Hid (∀ g, (Value.slice (some ⟨w.heap.size + 1 + 1, 0, none⟩) 0 0).ownBlock = some g → g ≠ w.heap.size + 1 + 1 + 1) := NB1.out
        have H : True := trivial
        have hbd : Below wr.heap.size wr wr.drew := (Below.refl _ _).drew
        replace X0 : Hid (Box2 wr.drew w.heap.size 46 (.slice none 0 0) (.slice none 0 0)) := X0.out.below hbd
        replace BV : Hid (Box2 wr.drew (w.heap.size + 1 + 1 + 1) 46 v0 (.slice (some ⟨w.heap.size + 1 + 1, 0, none⟩) 0 0)) := BV.out.below hbd
        replace RV : Hid (EO wr.drew (w.heap.size + 1) 54 3 v0 k (rgF (pRg (strB T)))) := RV.out.below hbd
        replace SV : Hid (EO wr.drew (w.heap.size + 1) 100 4 (.slice (some ⟨w.heap.size + 1 + 1, 0, none⟩) 0 0) 0 (seF (fun _ => seZ))) := SV.out.below hbd
        replace NB0 : Hid (∀ g, v0.ownBlock = some g → g ≠ w.heap.size + 1 + 1 + 1) := NB0.out
        replace NB1 : Hid (∀ g, (Value.slice (some ⟨w.heap.size + 1 + 1, 0, none⟩) 0 0).ownBlock = some g → g ≠ w.heap.size + 1 + 1 + 1) := NB1.out
        replace AP : Hid (∀ g, v0.ownBlock = some g → (Value.slice (some ⟨w.heap.size + 1 + 1, 0, none⟩) 0 0).ownBlock ≠ some g) := AP.out
        replace SZ : Hid (w.heap.size + 1 + 1 + 1 + 1 ≤ wr.drew.heap.size) := Nat.le_trans SZ.out hbd.size
        replace AB : Hid (Below w.heap.size w wr.drew) := AB.out.trans (hbd.mono AB.out.size)
        refine wp_region_noPanic ?_
        refine wp_region_held_drew (S := fun _ => True) (by kernel_rfl) H (fun _ => ?_)
        clear hbd
        generalize wr.drew = y0 at *
        refine wpAnyH_take (i := 0) (v := .pointer (some ⟨w.heap.size + 1 + 1 + 1, 0, none⟩)) rfl (by kernel_rfl) (by kernel_rfl) (by kernel_rfl) (fun _ _ _ h => h) (Or.inl ⟨by rfl, ?_⟩) H ?_
        · intro w' hSw; clear hSw; go_simp
        change wpAnyH _ _ _ _ _ _ _ { tmps := #[_,_,_,_,_,_,_,_,_,_,_,_,_,_,_,_,_,_,_,_,_,_,_,_,_,_,_,_,_,_,_,_,_,_,_,_,_,_,_,_,_,_,_,_,_,_,_,_,_,_,_,_,_,_,_,_,_,_,_,_,_,_,_,_,_,_,_,_,_,_,_,_,_,_,_,_,_,_,_,_,_,_,_,_,_,_,_,_,_,_,_,_,_,_,_,_,_,_,_,_,_,_,_,_,_,_,_,_,_,_,_,_,_,_,_,_,_,_,_,_,_,_,_,_,_,_,_,_,_,_], defers := _ } _
        refine wpAnyH_take (i := 2) (v := .string T) rfl (by kernel_rfl) (by kernel_rfl) (by kernel_rfl) (fun _ _ _ h => h) (Or.inl ⟨by rfl, ?_⟩) H ?_
        · intro w' hSw; clear hSw; go_simp
        change wpAnyH _ _ _ _ _ _ _ { tmps := #[_,_,_,_,_,_,_,_,_,_,_,_,_,_,_,_,_,_,_,_,_,_,_,_,_,_,_,_,_,_,_,_,_,_,_,_,_,_,_,_,_,_,_,_,_,_,_,_,_,_,_,_,_,_,_,_,_,_,_,_,_,_,_,_,_,_,_,_,_,_,_,_,_,_,_,_,_,_,_,_,_,_,_,_,_,_,_,_,_,_,_,_,_,_,_,_,_,_,_,_,_,_,_,_,_,_,_,_,_,_,_,_,_,_,_,_,_,_,_,_,_,_,_,_,_,_,_,_,_,_], defers := _ } _
        refine wpAnyH_take (i := 3) (v := .int .i64 (P : Int)) rfl (by kernel_rfl) (by kernel_rfl) (by kernel_rfl) (fun _ _ _ h => h) (Or.inl ⟨by rfl, ?_⟩) H ?_
        · intro w' hSw; clear hSw; go_simp
        change wpAnyH _ _ _ _ _ _ _ { tmps := #[_,_,_,_,_,_,_,_,_,_,_,_,_,_,_,_,_,_,_,_,_,_,_,_,_,_,_,_,_,_,_,_,_,_,_,_,_,_,_,_,_,_,_,_,_,_,_,_,_,_,_,_,_,_,_,_,_,_,_,_,_,_,_,_,_,_,_,_,_,_,_,_,_,_,_,_,_,_,_,_,_,_,_,_,_,_,_,_,_,_,_,_,_,_,_,_,_,_,_,_,_,_,_,_,_,_,_,_,_,_,_,_,_,_,_,_,_,_,_,_,_,_,_,_,_,_,_,_,_,_], defers := _ } _
        refine wpAnyH_take (i := 4) (v := .int .u8 (V : Int)) rfl (by kernel_rfl) (by kernel_rfl) (by kernel_rfl) (fun _ _ _ h => h) (Or.inl ⟨by rfl, ?_⟩) H ?_
        · intro w' hSw; clear hSw; go_simp
        change wpAnyH _ _ _ _ _ _ _ { tmps := #[_,_,_,_,_,_,_,_,_,_,_,_,_,_,_,_,_,_,_,_,_,_,_,_,_,_,_,_,_,_,_,_,_,_,_,_,_,_,_,_,_,_,_,_,_,_,_,_,_,_,_,_,_,_,_,_,_,_,_,_,_,_,_,_,_,_,_,_,_,_,_,_,_,_,_,_,_,_,_,_,_,_,_,_,_,_,_,_,_,_,_,_,_,_,_,_,_,_,_,_,_,_,_,_,_,_,_,_,_,_,_,_,_,_,_,_,_,_,_,_,_,_,_,_,_,_,_,_,_,_], defers := _ } _
        refine wpAnyH_take (i := 5) (v := .int .i64 (V : Int)) rfl (by kernel_rfl) (by kernel_rfl) (by kernel_rfl) (fun _ _ _ h => h) (Or.inl ⟨by rfl, ?_⟩) H ?_
        · intro w' hSw; clear hSw; go_simp
        change wpAnyH _ _ _ _ _ _ _ { tmps := #[_,_,_,_,_,_,_,_,_,_,_,_,_,_,_,_,_,_,_,_,_,_,_,_,_,_,_,_,_,_,_,_,_,_,_,_,_,_,_,_,_,_,_,_,_,_,_,_,_,_,_,_,_,_,_,_,_,_,_,_,_,_,_,_,_,_,_,_,_,_,_,_,_,_,_,_,_,_,_,_,_,_,_,_,_,_,_,_,_,_,_,_,_,_,_,_,_,_,_,_,_,_,_,_,_,_,_,_,_,_,_,_,_,_,_,_,_,_,_,_,_,_,_,_,_,_,_,_,_,_], defers := _ } _
        refine wpAnyH_take (i := 6) (v := .string T) rfl (by kernel_rfl) (by kernel_rfl) (by kernel_rfl) (fun _ _ _ h => h) (Or.inl ⟨by rfl, ?_⟩) H ?_
        · intro w' hSw; clear hSw; go_simp
        change wpAnyH _ _ _ _ _ _ _ { tmps := #[_,_,_,_,_,_,_,_,_,_,_,_,_,_,_,_,_,_,_,_,_,_,_,_,_,_,_,_,_,_,_,_,_,_,_,_,_,_,_,_,_,_,_,_,_,_,_,_,_,_,_,_,_,_,_,_,_,_,_,_,_,_,_,_,_,_,_,_,_,_,_,_,_,_,_,_,_,_,_,_,_,_,_,_,_,_,_,_,_,_,_,_,_,_,_,_,_,_,_,_,_,_,_,_,_,_,_,_,_,_,_,_,_,_,_,_,_,_,_,_,_,_,_,_,_,_,_,_,_,_], defers := _ } _
        refine wpAnyH_take (i := 7) (v := .int .i64 (P : Int)) rfl (by kernel_rfl) (by kernel_rfl) (by kernel_rfl) (fun _ _ _ h => h) (Or.inl ⟨by rfl, ?_⟩) H ?_
        · intro w' hSw; clear hSw; go_simp
        change wpAnyH _ _ _ _ _ _ _ { tmps := #[_,_,_,_,_,_,_,_,_,_,_,_,_,_,_,_,_,_,_,_,_,_,_,_,_,_,_,_,_,_,_,_,_,_,_,_,_,_,_,_,_,_,_,_,_,_,_,_,_,_,_,_,_,_,_,_,_,_,_,_,_,_,_,_,_,_,_,_,_,_,_,_,_,_,_,_,_,_,_,_,_,_,_,_,_,_,_,_,_,_,_,_,_,_,_,_,_,_,_,_,_,_,_,_,_,_,_,_,_,_,_,_,_,_,_,_,_,_,_,_,_,_,_,_,_,_,_,_,_,_], defers := _ } _
        refine wpAnyH_take (i := 8) (v := .int .i64 ((P + 1 : Nat) : Int)) rfl (by kernel_rfl) (by kernel_rfl) (by kernel_rfl) (fun _ _ _ h => h) (Or.inl ⟨by rfl, ?_⟩) H ?_
        · intro w' hSw; clear hSw; go_simp
        change wpAnyH _ _ _ _ _ _ _ { tmps := #[_,_,_,_,_,_,_,_,_,_,_,_,_,_,_,_,_,_,_,_,_,_,_,_,_,_,_,_,_,_,_,_,_,_,_,_,_,_,_,_,_,_,_,_,_,_,_,_,_,_,_,_,_,_,_,_,_,_,_,_,_,_,_,_,_,_,_,_,_,_,_,_,_,_,_,_,_,_,_,_,_,_,_,_,_,_,_,_,_,_,_,_,_,_,_,_,_,_,_,_,_,_,_,_,_,_,_,_,_,_,_,_,_,_,_,_,_,_,_,_,_,_,_,_,_,_,_,_,_,_], defers := _ } _
        refine wpAnyH_take (i := 9) (v := .int .i64 (P : Int)) rfl (by kernel_rfl) (by kernel_rfl) (by kernel_rfl) (fun _ _ _ h => h) (Or.inl ⟨by rfl, ?_⟩) H ?_
        · intro w' hSw; clear hSw; go_simp
        change wpAnyH _ _ _ _ _ _ _ { tmps := #[_,_,_,_,_,_,_,_,_,_,_,_,_,_,_,_,_,_,_,_,_,_,_,_,_,_,_,_,_,_,_,_,_,_,_,_,_,_,_,_,_,_,_,_,_,_,_,_,_,_,_,_,_,_,_,_,_,_,_,_,_,_,_,_,_,_,_,_,_,_,_,_,_,_,_,_,_,_,_,_,_,_,_,_,_,_,_,_,_,_,_,_,_,_,_,_,_,_,_,_,_,_,_,_,_,_,_,_,_,_,_,_,_,_,_,_,_,_,_,_,_,_,_,_,_,_,_,_,_,_], defers := _ } _
        refine wpAnyH_take (i := 10) (v := .int .i64 ((P + 5 : Nat) : Int)) rfl (by kernel_rfl) (by kernel_rfl) (by kernel_rfl) (fun _ _ _ h => h) (Or.inl ⟨by rfl, ?_⟩) H ?_
        · intro w' hSw; clear hSw; go_simp
        change wpAnyH _ _ _ _ _ _ _ { tmps := #[_,_,_,_,_,_,_,_,_,_,_,_,_,_,_,_,_,_,_,_,_,_,_,_,_,_,_,_,_,_,_,_,_,_,_,_,_,_,_,_,_,_,_,_,_,_,_,_,_,_,_,_,_,_,_,_,_,_,_,_,_,_,_,_,_,_,_,_,_,_,_,_,_,_,_,_,_,_,_,_,_,_,_,_,_,_,_,_,_,_,_,_,_,_,_,_,_,_,_,_,_,_,_,_,_,_,_,_,_,_,_,_,_,_,_,_,_,_,_,_,_,_,_,_,_,_,_,_,_,_], defers := _ } _
        refine wpAnyH_take (i := 11) (v := .string (T.extract (P + 1) (P + 5))) rfl (by kernel_rfl) (by kernel_rfl) (by kernel_rfl) (fun _ _ _ h => h) (Or.inl ⟨by rfl, ?_⟩) H ?_
        · intro w' hSw; clear hSw; go_simp
        change wpAnyH _ _ _ _ _ _ _ { tmps := #[_,_,_,_,_,_,_,_,_,_,_,_,_,_,_,_,_,_,_,_,_,_,_,_,_,_,_,_,_,_,_,_,_,_,_,_,_,_,_,_,_,_,_,_,_,_,_,_,_,_,_,_,_,_,_,_,_,_,_,_,_,_,_,_,_,_,_,_,_,_,_,_,_,_,_,_,_,_,_,_,_,_,_,_,_,_,_,_,_,_,_,_,_,_,_,_,_,_,_,_,_,_,_,_,_,_,_,_,_,_,_,_,_,_,_,_,_,_,_,_,_,_,_,_,_,_,_,_,_,_], defers := _ } _
        refine wpAnyH_take (i := 13) (v := .string T) rfl (by kernel_rfl) (by kernel_rfl) (by kernel_rfl) (fun _ _ _ h => h) (Or.inl ⟨by rfl, ?_⟩) H ?_
        · intro w' hSw; clear hSw; go_simp
        change wpAnyH _ _ _ _ _ _ _ { tmps := #[_,_,_,_,_,_,_,_,_,_,_,_,_,_,_,_,_,_,_,_,_,_,_,_,_,_,_,_,_,_,_,_,_,_,_,_,_,_,_,_,_,_,_,_,_,_,_,_,_,_,_,_,_,_,_,_,_,_,_,_,_,_,_,_,_,_,_,_,_,_,_,_,_,_,_,_,_,_,_,_,_,_,_,_,_,_,_,_,_,_,_,_,_,_,_,_,_,_,_,_,_,_,_,_,_,_,_,_,_,_,_,_,_,_,_,_,_,_,_,_,_,_,_,_,_,_,_,_,_,_], defers := _ } _
        refine wpAnyH_take (i := 14) (v := .int .i64 (P : Int)) rfl (by kernel_rfl) (by kernel_rfl) (by kernel_rfl) (fun _ _ _ h => h) (Or.inl ⟨by rfl, ?_⟩) H ?_
        · intro w' hSw; clear hSw; go_simp
        change wpAnyH _ _ _ _ _ _ _ { tmps := #[_,_,_,_,_,_,_,_,_,_,_,_,_,_,_,_,_,_,_,_,_,_,_,_,_,_,_,_,_,_,_,_,_,_,_,_,_,_,_,_,_,_,_,_,_,_,_,_,_,_,_,_,_,_,_,_,_,_,_,_,_,_,_,_,_,_,_,_,_,_,_,_,_,_,_,_,_,_,_,_,_,_,_,_,_,_,_,_,_,_,_,_,_,_,_,_,_,_,_,_,_,_,_,_,_,_,_,_,_,_,_,_,_,_,_,_,_,_,_,_,_,_,_,_,_,_,_,_,_,_], defers := _ } _
        refine wpAnyH_take (i := 15) (v := .int .i64 ((P + 5 : Nat) : Int)) rfl (by kernel_rfl) (by kernel_rfl) (by kernel_rfl) (fun _ _ _ h => h) (Or.inl ⟨by rfl, ?_⟩) H ?_
        · intro w' hSw; clear hSw; go_simp
        change wpAnyH _ _ _ _ _ _ _ { tmps := #[_,_,_,_,_,_,_,_,_,_,_,_,_,_,_,_,_,_,_,_,_,_,_,_,_,_,_,_,_,_,_,_,_,_,_,_,_,_,_,_,_,_,_,_,_,_,_,_,_,_,_,_,_,_,_,_,_,_,_,_,_,_,_,_,_,_,_,_,_,_,_,_,_,_,_,_,_,_,_,_,_,_,_,_,_,_,_,_,_,_,_,_,_,_,_,_,_,_,_,_,_,_,_,_,_,_,_,_,_,_,_,_,_,_,_,_,_,_,_,_,_,_,_,_,_,_,_,_,_,_], defers := _ } _
        refine wpAnyH_take (i := 16) (v := .int .i64 (P : Int)) rfl (by kernel_rfl) (by kernel_rfl) (by kernel_rfl) (fun _ _ _ h => h) (Or.inl ⟨by rfl, ?_⟩) H ?_
        · intro w' hSw; clear hSw; go_simp
        change wpAnyH _ _ _ _ _ _ _ { tmps := #[_,_,_,_,_,_,_,_,_,_,_,_,_,_,_,_,_,_,_,_,_,_,_,_,_,_,_,_,_,_,_,_,_,_,_,_,_,_,_,_,_,_,_,_,_,_,_,_,_,_,_,_,_,_,_,_,_,_,_,_,_,_,_,_,_,_,_,_,_,_,_,_,_,_,_,_,_,_,_,_,_,_,_,_,_,_,_,_,_,_,_,_,_,_,_,_,_,_,_,_,_,_,_,_,_,_,_,_,_,_,_,_,_,_,_,_,_,_,_,_,_,_,_,_,_,_,_,_,_,_], defers := _ } _
        refine wpAnyH_take (i := 17) (v := .int .i64 ((P + 37 : Nat) : Int)) rfl (by kernel_rfl) (by kernel_rfl) (by kernel_rfl) (fun _ _ _ h => h) (Or.inl ⟨by rfl, ?_⟩) H ?_
        · intro w' hSw; clear hSw; go_simp
        change wpAnyH _ _ _ _ _ _ _ { tmps := #[_,_,_,_,_,_,_,_,_,_,_,_,_,_,_,_,_,_,_,_,_,_,_,_,_,_,_,_,_,_,_,_,_,_,_,_,_,_,_,_,_,_,_,_,_,_,_,_,_,_,_,_,_,_,_,_,_,_,_,_,_,_,_,_,_,_,_,_,_,_,_,_,_,_,_,_,_,_,_,_,_,_,_,_,_,_,_,_,_,_,_,_,_,_,_,_,_,_,_,_,_,_,_,_,_,_,_,_,_,_,_,_,_,_,_,_,_,_,_,_,_,_,_,_,_,_,_,_,_,_], defers := _ } _
        refine wpAnyH_take (i := 18) (v := .string U) rfl (by kernel_rfl) (by kernel_rfl) (by kernel_rfl) (fun _ _ _ h => h) (Or.inl ⟨by rfl, ?_⟩) H ?_
        · intro w' hSw; clear hSw; go_simp
        change wpAnyH _ _ _ _ _ _ _ { tmps := #[_,_,_,_,_,_,_,_,_,_,_,_,_,_,_,_,_,_,_,_,_,_,_,_,_,_,_,_,_,_,_,_,_,_,_,_,_,_,_,_,_,_,_,_,_,_,_,_,_,_,_,_,_,_,_,_,_,_,_,_,_,_,_,_,_,_,_,_,_,_,_,_,_,_,_,_,_,_,_,_,_,_,_,_,_,_,_,_,_,_,_,_,_,_,_,_,_,_,_,_,_,_,_,_,_,_,_,_,_,_,_,_,_,_,_,_,_,_,_,_,_,_,_,_,_,_,_,_,_,_], defers := _ } _
        refine wpAnyH_ready (rs := [1, 12]) (by kernel_rfl) (by simp) ?_
        refine (AllReadyH.cons rfl (fun KK hK => ?_) (AllReadyH.cons rfl (fun KK hK => ?_) AllReadyH.nil))
        · skip
          have lb := BV.out.c0
          go_simp
          refine hK.out _ _ H (fun _ => ?_)
          clear hK KK lb
          change wpAnyH _ _ _ _ _ _ _ { tmps := #[_,_,_,_,_,_,_,_,_,_,_,_,_,_,_,_,_,_,_,_,_,_,_,_,_,_,_,_,_,_,_,_,_,_,_,_,_,_,_,_,_,_,_,_,_,_,_,_,_,_,_,_,_,_,_,_,_,_,_,_,_,_,_,_,_,_,_,_,_,_,_,_,_,_,_,_,_,_,_,_,_,_,_,_,_,_,_,_,_,_,_,_,_,_,_,_,_,_,_,_,_,_,_,_,_,_,_,_,_,_,_,_,_,_,_,_,_,_,_,_,_,_,_,_,_,_,_,_,_,_], defers := _ } _
          refine wpAnyH_ready (rs := [12]) (by kernel_rfl) (by simp) ?_
          refine (AllReadyH.cons rfl (fun KK hK => ?_) AllReadyH.nil)
          go_simp
          refine (NM.out _).mono ?_
          rintro e _ ⟨rfl, rfl⟩
          refine hK.out _ _ H (fun _ => ?_)
          clear hK KK
          change wpAnyH _ _ _ _ _ _ _ { tmps := #[_,_,_,_,_,_,_,_,_,_,_,_,_,_,_,_,_,_,_,_,_,_,_,_,_,_,_,_,_,_,_,_,_,_,_,_,_,_,_,_,_,_,_,_,_,_,_,_,_,_,_,_,_,_,_,_,_,_,_,_,_,_,_,_,_,_,_,_,_,_,_,_,_,_,_,_,_,_,_,_,_,_,_,_,_,_,_,_,_,_,_,_,_,_,_,_,_,_,_,_,_,_,_,_,_,_,_,_,_,_,_,_,_,_,_,_,_,_,_,_,_,_,_,_,_,_,_,_,_,_], defers := _ } _
          refine wpAnyH_take (i := 19) (v := .agg #[.int .i64 (V : Int), .int .i64 (C : Int), .string U]) rfl (by kernel_rfl) (by kernel_rfl) (by kernel_rfl) (fun _ _ _ h => h) (Or.inl ⟨by rfl, ?_⟩) H ?_
          · intro w' hSw; clear hSw; go_simp
          change wpAnyH _ _ _ _ _ _ _ { tmps := #[_,_,_,_,_,_,_,_,_,_,_,_,_,_,_,_,_,_,_,_,_,_,_,_,_,_,_,_,_,_,_,_,_,_,_,_,_,_,_,_,_,_,_,_,_,_,_,_,_,_,_,_,_,_,_,_,_,_,_,_,_,_,_,_,_,_,_,_,_,_,_,_,_,_,_,_,_,_,_,_,_,_,_,_,_,_,_,_,_,_,_,_,_,_,_,_,_,_,_,_,_,_,_,_,_,_,_,_,_,_,_,_,_,_,_,_,_,_,_,_,_,_,_,_,_,_,_,_,_,_], defers := _ } _
          refine wpAnyH_ready (rs := [20]) (by kernel_rfl) (by simp) ?_
          refine (AllReadyH.cons rfl (fun KK hK => ?_) AllReadyH.nil)
          go_simp
          refine hK.out _ _ H (fun _ => ?_)
          clear hK KK
          change wpAnyH _ _ _ _ _ _ _ { tmps := #[_,_,_,_,_,_,_,_,_,_,_,_,_,_,_,_,_,_,_,_,_,_,_,_,_,_,_,_,_,_,_,_,_,_,_,_,_,_,_,_,_,_,_,_,_,_,_,_,_,_,_,_,_,_,_,_,_,_,_,_,_,_,_,_,_,_,_,_,_,_,_,_,_,_,_,_,_,_,_,_,_,_,_,_,_,_,_,_,_,_,_,_,_,_,_,_,_,_,_,_,_,_,_,_,_,_,_,_,_,_,_,_,_,_,_,_,_,_,_,_,_,_,_,_,_,_,_,_,_,_], defers := _ } _
          have hb1 : Below y0.heap.size y0 (y0.alloc (.cells #[.int .i64 (V : Int), .int .i64 (C : Int), .string U] 54)) := (Below.refl _ _).alloc (Nat.le_refl _) _
          have lc : ∀ j, j < 3 → (y0.alloc (.cells #[.int .i64 (V : Int), .int .i64 (C : Int), .string U] 54)).cell? ⟨y0.heap.size, 0 + j, none⟩ = some (rgV (⟨(V : Int), (C : Int), U⟩ : Rg) j) := litCells (w := y0) (t := 54) (cs := #[.int .i64 (V : Int), .int .i64 (C : Int), .string U]) (m := 3) (rgV (⟨(V : Int), (C : Int), U⟩ : Rg)) rfl (fun i hi => by rcases (show i = 0 ∨ i = 1 ∨ i = 2 by omega) with rfl | rfl | rfl <;> rfl)
          have szu := SZ.out
          obtain ⟨nv, w5, hr5, hE5, hg5, hl5⟩ := appRg (y0.alloc (.cells #[.int .i64 (V : Int), .int .i64 (C : Int), .string U] 54)) (w.heap.size + 1) v0 k y0.heap.size (pRg (strB T)) (⟨(V : Int), (C : Int), U⟩ : Rg) (by simp; omega) (by omega) (RV.out.below hb1) lc
          obtain ⟨na, nc, rfl⟩ := hE5.form
          refine wpAnyH_ready (rs := [21]) (by kernel_rfl) (by simp) ?_
          refine AllReadyH.cons rfl (fun KK hK => ?_) AllReadyH.nil
          rw [if_pos (by rfl)]
          refine Lib.wp_append_run _ (.tmp 38) (.tmp 57) 43 43 rfl v0 (.slice (some ⟨y0.heap.size, 0, none⟩) 1 1) rfl rfl _ _ (hr5 _) ?_
          refine hK.out _ _ H (fun _ => ?_)
          clear hK KK
          change wpAnyH _ _ _ _ _ _ _ { tmps := #[_,_,_,_,_,_,_,_,_,_,_,_,_,_,_,_,_,_,_,_,_,_,_,_,_,_,_,_,_,_,_,_,_,_,_,_,_,_,_,_,_,_,_,_,_,_,_,_,_,_,_,_,_,_,_,_,_,_,_,_,_,_,_,_,_,_,_,_,_,_,_,_,_,_,_,_,_,_,_,_,_,_,_,_,_,_,_,_,_,_,_,_,_,_,_,_,_,_,_,_,_,_,_,_,_,_,_,_,_,_,_,_,_,_,_,_,_,_,_,_,_,_,_,_,_,_,_,_,_,_], defers := _ } _
          refine wpAnyH_take (i := 22) (v := .pointer (some ⟨w.heap.size + 1 + 1 + 1, 0, none⟩)) rfl (by kernel_rfl) (by kernel_rfl) (by kernel_rfl) (fun _ _ _ h => h) (Or.inl ⟨by rfl, ?_⟩) H ?_
          · intro w' hSw; clear hSw; go_simp
          change wpAnyH _ _ _ _ _ _ _ { tmps := #[_,_,_,_,_,_,_,_,_,_,_,_,_,_,_,_,_,_,_,_,_,_,_,_,_,_,_,_,_,_,_,_,_,_,_,_,_,_,_,_,_,_,_,_,_,_,_,_,_,_,_,_,_,_,_,_,_,_,_,_,_,_,_,_,_,_,_,_,_,_,_,_,_,_,_,_,_,_,_,_,_,_,_,_,_,_,_,_,_,_,_,_,_,_,_,_,_,_,_,_,_,_,_,_,_,_,_,_,_,_,_,_,_,_,_,_,_,_,_,_,_,_,_,_,_,_,_,_,_,_], defers := _ } _
          have ob : ∀ g, v0.ownBlock = some g → w.heap.size + 1 ≤ g ∧ g ≠ w.heap.size + 1 + 1 + 1 := fun g e => ⟨(RV.out.ge g e).1, NB0.out g e⟩
          have sz2 : (y0.alloc (.cells #[.int .i64 (V : Int), .int .i64 (C : Int), .string U] 54)).heap.size = y0.heap.size + 1 := by simp
          have k5 : ∀ q, q < y0.heap.size → (∀ g, v0.ownBlock = some g → q ≠ g) → w5.heap[q]? = y0.heap[q]? := fun q hq hn => (grown_block hg5 (by rw [sz2]; omega) hn).trans (hb1.block q hq)
          have BV5 := BV.out.ofBlock (k5 _ (by omega) (fun g e q => (ob g e).2 q.symm))
          have f5 := BV5.fr 0
          have c5 := BV5.c0
          have X6 : Hid (Box2 (w5.setCell ⟨w.heap.size + 1 + 1 + 1, 0, none⟩ (.slice na (k + 1) nc)) w.heap.size 46 (.slice none 0 0) (.slice none 0 0)) := (X0.out.ofBlock (k5 _ (by omega) (fun g e q => by have := (ob g e).1; omega))).other (by simp; omega) _
          have BV6 : Hid (Box2 (w5.setCell ⟨w.heap.size + 1 + 1 + 1, 0, none⟩ (.slice na (k + 1) nc)) (w.heap.size + 1 + 1 + 1) 46 (.slice na (k + 1) nc) (.slice (some ⟨w.heap.size + 1 + 1, 0, none⟩) 0 0)) := BV5.set0 _
          have nn : ∀ g, (Value.slice na (k + 1) nc).ownBlock = some g → (v0.ownBlock = some g ∨ g = y0.heap.size + 1) := fun g e => by
            rcases hl5 with q | q
            · exact .inl (q.symm.trans e)
            · right; rw [e] at q; rw [sz2] at q; exact Option.some.inj q
          have N6 : Hid (∀ g, (Value.slice na (k + 1) nc).ownBlock = some g → g ≠ w.heap.size + 1 + 1 + 1) := fun g e => by
            rcases nn g e with q | q
            · exact (ob g q).2
            · omega
          have E6 : Hid (EO (w5.setCell ⟨w.heap.size + 1 + 1 + 1, 0, none⟩ (.slice na (k + 1) nc)) (w.heap.size + 1) 54 3 (.slice na (k + 1) nc) (k + 1) (rgF (pRg (strB T)))) := (hE5.keep (fun g e => heap_setOther _ _ (N6.out g e))).congr (fun i hi j hj => by unfold rgF updE; by_cases q : i = k; rw [if_pos q, XR.out, q]; rw [if_neg q])
          have O6 : Hid (EO (w5.setCell ⟨w.heap.size + 1 + 1 + 1, 0, none⟩ (.slice na (k + 1) nc)) (w.heap.size + 1) 100 4 (.slice (some ⟨w.heap.size + 1 + 1, 0, none⟩) 0 0) 0 (seF (fun _ => seZ))) := SV.out.keep (fun g e => (heap_setOther _ _ (NB1.out g e)).trans (k5 g (SV.out.ge g e).2 (fun g2 e2 q => AP.out g2 e2 (q ▸ e))))
          have A6 : Hid (∀ g, (Value.slice na (k + 1) nc).ownBlock = some g → (Value.slice (some ⟨w.heap.size + 1 + 1, 0, none⟩) 0 0).ownBlock ≠ some g) := fun g e q => by
            rcases nn g e with z | z
            · exact AP.out g z q
            · have := (SV.out.ge g q).2; omega
          have SZ6 : Hid (w.heap.size + 1 + 1 + 1 + 1 ≤ (w5.setCell ⟨w.heap.size + 1 + 1 + 1, 0, none⟩ (.slice na (k + 1) nc)).heap.size) := by
            have := hg5.size
            rw [sz2] at this
            show _ ≤ _
            simp
            omega
          have AB6 : Hid (Below w.heap.size w (w5.setCell ⟨w.heap.size + 1 + 1 + 1, 0, none⟩ (.slice na (k + 1) nc))) := (AB.out.trans ((hb1.mono AB.out.size).trans (grown_belowE hg5 (by rw [sz2]; omega) (fun g e => by have := (ob g e).1; omega)))).setCell (by simp; omega) _
          clear hE5 hg5 hl5 k5 BV5 lc hb1 sz2 ob nn
          refine wpAnyH_ready (rs := [23]) (by kernel_rfl) (by simp) ?_
          refine AllReadyH.cons rfl (fun KK hK => ?_) AllReadyH.nil
          go_simp
          refine hK.out _ _ H (fun _ => ?_)
          clear hK KK
          refine wpAnyH_done (by kernel_rfl) ?_ _
          refine NoPanic.normal ?_
          clear H X0 BV RV SV NB0 NB1 AP SZ AB hr5 szu f5 c5
          have E7 : Hid (P + 37 = 1 + 37 * (k + 1)) := by have := HP.out; show _ = _; omega
          have E8 : Hid (I - 1 = x0 - (k + 1) ∧ k + 1 ≤ x0) := by have := HI.out; exact ⟨by omega, by omega⟩
          have i8 : I ≤ 255 := by have := HI.out; omega
          have i9 : IntKind.i64.wrap ((I : Int) - 1) = ((I - 1 : Nat) : Int) := by rw [IntWalk.i64_in _ (by omega)]; omega
          clear NM XR es eU wV sl1 sl2
          change Exit.then _ _ Exit.normal { tmps := #[_, _, _, _, _, _, _, _, _, _, _, _, _, _, _, _, _, _, _, _, _, _, _, _, _, _, _, _, _, _, _, _, _, _, _, _, _, _, _, _, _, _, _, _, _, _, _, _, _, _, _, _, _, _, _, _, _, _, _, _, _, _, _, _, _, _, _, _, _, _, _, _, _, _, _, _, _, _, _, _, _, _, _, _, _, _, _, _, _, _, _, _, _, _, _, _, _, _, _, _, _, _, _, _, _, _, _, _, _, _, _, _, _, _, _, _, _, _, _, _, _, _, _, _, _, _, _, _, _, _], defers := _ } _
          go_wp2
          go_roundw
          case rel => exact ⟨k + 1, _, E8.out.2, by have := E7.out; omega, numEq8 (by have := E7.out; omega), numEq8 (by have := E8.out.1; omega), X6.out, BV6.out, E6.out, O6.out, N6.out, NB1x.out, A6.out, SZ6.out, AB6.out⟩
          case measure => simp [intOf]; omega
        · skip
          go_simp
          refine (NM.out _).mono ?_
          rintro e _ ⟨rfl, rfl⟩
          refine hK.out _ _ H (fun _ => ?_)
          clear hK KK
          change wpAnyH _ _ _ _ _ _ _ { tmps := #[_,_,_,_,_,_,_,_,_,_,_,_,_,_,_,_,_,_,_,_,_,_,_,_,_,_,_,_,_,_,_,_,_,_,_,_,_,_,_,_,_,_,_,_,_,_,_,_,_,_,_,_,_,_,_,_,_,_,_,_,_,_,_,_,_,_,_,_,_,_,_,_,_,_,_,_,_,_,_,_,_,_,_,_,_,_,_,_,_,_,_,_,_,_,_,_,_,_,_,_,_,_,_,_,_,_,_,_,_,_,_,_,_,_,_,_,_,_,_,_,_,_,_,_,_,_,_,_,_,_], defers := _ } _
          refine wpAnyH_take (i := 19) (v := .agg #[.int .i64 (V : Int), .int .i64 (C : Int), .string U]) rfl (by kernel_rfl) (by kernel_rfl) (by kernel_rfl) (fun _ _ _ h => h) (Or.inl ⟨by rfl, ?_⟩) H ?_
          · intro w' hSw; clear hSw; go_simp
          change wpAnyH _ _ _ _ _ _ _ { tmps := #[_,_,_,_,_,_,_,_,_,_,_,_,_,_,_,_,_,_,_,_,_,_,_,_,_,_,_,_,_,_,_,_,_,_,_,_,_,_,_,_,_,_,_,_,_,_,_,_,_,_,_,_,_,_,_,_,_,_,_,_,_,_,_,_,_,_,_,_,_,_,_,_,_,_,_,_,_,_,_,_,_,_,_,_,_,_,_,_,_,_,_,_,_,_,_,_,_,_,_,_,_,_,_,_,_,_,_,_,_,_,_,_,_,_,_,_,_,_,_,_,_,_,_,_,_,_,_,_,_,_], defers := _ } _
          refine wpAnyH_ready (rs := [1, 20]) (by kernel_rfl) (by simp) ?_
          refine (AllReadyH.cons rfl (fun KK hK => ?_) (AllReadyH.cons rfl (fun KK hK => ?_) AllReadyH.nil))
          · skip
            have lb := BV.out.c0
            go_simp
            refine hK.out _ _ H (fun _ => ?_)
            clear hK KK lb
            change wpAnyH _ _ _ _ _ _ _ { tmps := #[_,_,_,_,_,_,_,_,_,_,_,_,_,_,_,_,_,_,_,_,_,_,_,_,_,_,_,_,_,_,_,_,_,_,_,_,_,_,_,_,_,_,_,_,_,_,_,_,_,_,_,_,_,_,_,_,_,_,_,_,_,_,_,_,_,_,_,_,_,_,_,_,_,_,_,_,_,_,_,_,_,_,_,_,_,_,_,_,_,_,_,_,_,_,_,_,_,_,_,_,_,_,_,_,_,_,_,_,_,_,_,_,_,_,_,_,_,_,_,_,_,_,_,_,_,_,_,_,_,_], defers := _ } _
            refine wpAnyH_ready (rs := [20]) (by kernel_rfl) (by simp) ?_
            refine (AllReadyH.cons rfl (fun KK hK => ?_) AllReadyH.nil)
            go_simp
            refine hK.out _ _ H (fun _ => ?_)
            clear hK KK
            change wpAnyH _ _ _ _ _ _ _ { tmps := #[_,_,_,_,_,_,_,_,_,_,_,_,_,_,_,_,_,_,_,_,_,_,_,_,_,_,_,_,_,_,_,_,_,_,_,_,_,_,_,_,_,_,_,_,_,_,_,_,_,_,_,_,_,_,_,_,_,_,_,_,_,_,_,_,_,_,_,_,_,_,_,_,_,_,_,_,_,_,_,_,_,_,_,_,_,_,_,_,_,_,_,_,_,_,_,_,_,_,_,_,_,_,_,_,_,_,_,_,_,_,_,_,_,_,_,_,_,_,_,_,_,_,_,_,_,_,_,_,_,_], defers := _ } _
            have hb1 : Below y0.heap.size y0 (y0.alloc (.cells #[.int .i64 (V : Int), .int .i64 (C : Int), .string U] 54)) := (Below.refl _ _).alloc (Nat.le_refl _) _
            have lc : ∀ j, j < 3 → (y0.alloc (.cells #[.int .i64 (V : Int), .int .i64 (C : Int), .string U] 54)).cell? ⟨y0.heap.size, 0 + j, none⟩ = some (rgV (⟨(V : Int), (C : Int), U⟩ : Rg) j) := litCells (w := y0) (t := 54) (cs := #[.int .i64 (V : Int), .int .i64 (C : Int), .string U]) (m := 3) (rgV (⟨(V : Int), (C : Int), U⟩ : Rg)) rfl (fun i hi => by rcases (show i = 0 ∨ i = 1 ∨ i = 2 by omega) with rfl | rfl | rfl <;> rfl)
            have szu := SZ.out
            obtain ⟨nv, w5, hr5, hE5, hg5, hl5⟩ := appRg (y0.alloc (.cells #[.int .i64 (V : Int), .int .i64 (C : Int), .string U] 54)) (w.heap.size + 1) v0 k y0.heap.size (pRg (strB T)) (⟨(V : Int), (C : Int), U⟩ : Rg) (by simp; omega) (by omega) (RV.out.below hb1) lc
            obtain ⟨na, nc, rfl⟩ := hE5.form
            refine wpAnyH_ready (rs := [21]) (by kernel_rfl) (by simp) ?_
            refine AllReadyH.cons rfl (fun KK hK => ?_) AllReadyH.nil
            rw [if_pos (by rfl)]
            refine Lib.wp_append_run _ (.tmp 38) (.tmp 57) 43 43 rfl v0 (.slice (some ⟨y0.heap.size, 0, none⟩) 1 1) rfl rfl _ _ (hr5 _) ?_
            refine hK.out _ _ H (fun _ => ?_)
            clear hK KK
            change wpAnyH _ _ _ _ _ _ _ { tmps := #[_,_,_,_,_,_,_,_,_,_,_,_,_,_,_,_,_,_,_,_,_,_,_,_,_,_,_,_,_,_,_,_,_,_,_,_,_,_,_,_,_,_,_,_,_,_,_,_,_,_,_,_,_,_,_,_,_,_,_,_,_,_,_,_,_,_,_,_,_,_,_,_,_,_,_,_,_,_,_,_,_,_,_,_,_,_,_,_,_,_,_,_,_,_,_,_,_,_,_,_,_,_,_,_,_,_,_,_,_,_,_,_,_,_,_,_,_,_,_,_,_,_,_,_,_,_,_,_,_,_], defers := _ } _
            refine wpAnyH_take (i := 22) (v := .pointer (some ⟨w.heap.size + 1 + 1 + 1, 0, none⟩)) rfl (by kernel_rfl) (by kernel_rfl) (by kernel_rfl) (fun _ _ _ h => h) (Or.inl ⟨by rfl, ?_⟩) H ?_
            · intro w' hSw; clear hSw; go_simp
            change wpAnyH _ _ _ _ _ _ _ { tmps := #[_,_,_,_,_,_,_,_,_,_,_,_,_,_,_,_,_,_,_,_,_,_,_,_,_,_,_,_,_,_,_,_,_,_,_,_,_,_,_,_,_,_,_,_,_,_,_,_,_,_,_,_,_,_,_,_,_,_,_,_,_,_,_,_,_,_,_,_,_,_,_,_,_,_,_,_,_,_,_,_,_,_,_,_,_,_,_,_,_,_,_,_,_,_,_,_,_,_,_,_,_,_,_,_,_,_,_,_,_,_,_,_,_,_,_,_,_,_,_,_,_,_,_,_,_,_,_,_,_,_], defers := _ } _
            have ob : ∀ g, v0.ownBlock = some g → w.heap.size + 1 ≤ g ∧ g ≠ w.heap.size + 1 + 1 + 1 := fun g e => ⟨(RV.out.ge g e).1, NB0.out g e⟩
            have sz2 : (y0.alloc (.cells #[.int .i64 (V : Int), .int .i64 (C : Int), .string U] 54)).heap.size = y0.heap.size + 1 := by simp
            have k5 : ∀ q, q < y0.heap.size → (∀ g, v0.ownBlock = some g → q ≠ g) → w5.heap[q]? = y0.heap[q]? := fun q hq hn => (grown_block hg5 (by rw [sz2]; omega) hn).trans (hb1.block q hq)
            have BV5 := BV.out.ofBlock (k5 _ (by omega) (fun g e q => (ob g e).2 q.symm))
            have f5 := BV5.fr 0
            have c5 := BV5.c0
            have X6 : Hid (Box2 (w5.setCell ⟨w.heap.size + 1 + 1 + 1, 0, none⟩ (.slice na (k + 1) nc)) w.heap.size 46 (.slice none 0 0) (.slice none 0 0)) := (X0.out.ofBlock (k5 _ (by omega) (fun g e q => by have := (ob g e).1; omega))).other (by simp; omega) _
            have BV6 : Hid (Box2 (w5.setCell ⟨w.heap.size + 1 + 1 + 1, 0, none⟩ (.slice na (k + 1) nc)) (w.heap.size + 1 + 1 + 1) 46 (.slice na (k + 1) nc) (.slice (some ⟨w.heap.size + 1 + 1, 0, none⟩) 0 0)) := BV5.set0 _
            have nn : ∀ g, (Value.slice na (k + 1) nc).ownBlock = some g → (v0.ownBlock = some g ∨ g = y0.heap.size + 1) := fun g e => by
              rcases hl5 with q | q
              · exact .inl (q.symm.trans e)
              · right; rw [e] at q; rw [sz2] at q; exact Option.some.inj q
            have N6 : Hid (∀ g, (Value.slice na (k + 1) nc).ownBlock = some g → g ≠ w.heap.size + 1 + 1 + 1) := fun g e => by
              rcases nn g e with q | q
              · exact (ob g q).2
              · omega
            have E6 : Hid (EO (w5.setCell ⟨w.heap.size + 1 + 1 + 1, 0, none⟩ (.slice na (k + 1) nc)) (w.heap.size + 1) 54 3 (.slice na (k + 1) nc) (k + 1) (rgF (pRg (strB T)))) := (hE5.keep (fun g e => heap_setOther _ _ (N6.out g e))).congr (fun i hi j hj => by unfold rgF updE; by_cases q : i = k; rw [if_pos q, XR.out, q]; rw [if_neg q])
            have O6 : Hid (EO (w5.setCell ⟨w.heap.size + 1 + 1 + 1, 0, none⟩ (.slice na (k + 1) nc)) (w.heap.size + 1) 100 4 (.slice (some ⟨w.heap.size + 1 + 1, 0, none⟩) 0 0) 0 (seF (fun _ => seZ))) := SV.out.keep (fun g e => (heap_setOther _ _ (NB1.out g e)).trans (k5 g (SV.out.ge g e).2 (fun g2 e2 q => AP.out g2 e2 (q ▸ e))))
            have A6 : Hid (∀ g, (Value.slice na (k + 1) nc).ownBlock = some g → (Value.slice (some ⟨w.heap.size + 1 + 1, 0, none⟩) 0 0).ownBlock ≠ some g) := fun g e q => by
              rcases nn g e with z | z
              · exact AP.out g z q
              · have := (SV.out.ge g q).2; omega
            have SZ6 : Hid (w.heap.size + 1 + 1 + 1 + 1 ≤ (w5.setCell ⟨w.heap.size + 1 + 1 + 1, 0, none⟩ (.slice na (k + 1) nc)).heap.size) := by
              have := hg5.size
              rw [sz2] at this
              show _ ≤ _
              simp
              omega
            have AB6 : Hid (Below w.heap.size w (w5.setCell ⟨w.heap.size + 1 + 1 + 1, 0, none⟩ (.slice na (k + 1) nc))) := (AB.out.trans ((hb1.mono AB.out.size).trans (grown_belowE hg5 (by rw [sz2]; omega) (fun g e => by have := (ob g e).1; omega)))).setCell (by simp; omega) _
            clear hE5 hg5 hl5 k5 BV5 lc hb1 sz2 ob nn
            refine wpAnyH_ready (rs := [23]) (by kernel_rfl) (by simp) ?_
            refine AllReadyH.cons rfl (fun KK hK => ?_) AllReadyH.nil
            go_simp
            refine hK.out _ _ H (fun _ => ?_)
            clear hK KK
            refine wpAnyH_done (by kernel_rfl) ?_ _
            refine NoPanic.normal ?_
            clear H X0 BV RV SV NB0 NB1 AP SZ AB hr5 szu f5 c5
            have E7 : Hid (P + 37 = 1 + 37 * (k + 1)) := by have := HP.out; show _ = _; omega
            have E8 : Hid (I - 1 = x0 - (k + 1) ∧ k + 1 ≤ x0) := by have := HI.out; exact ⟨by omega, by omega⟩
            have i8 : I ≤ 255 := by have := HI.out; omega
            have i9 : IntKind.i64.wrap ((I : Int) - 1) = ((I - 1 : Nat) : Int) := by rw [IntWalk.i64_in _ (by omega)]; omega
            clear NM XR es eU wV sl1 sl2
            change Exit.then _ _ Exit.normal { tmps := #[_, _, _, _, _, _, _, _, _, _, _, _, _, _, _, _, _, _, _, _, _, _, _, _, _, _, _, _, _, _, _, _, _, _, _, _, _, _, _, _, _, _, _, _, _, _, _, _, _, _, _, _, _, _, _, _, _, _, _, _, _, _, _, _, _, _, _, _, _, _, _, _, _, _, _, _, _, _, _, _, _, _, _, _, _, _, _, _, _, _, _, _, _, _, _, _, _, _, _, _, _, _, _, _, _, _, _, _, _, _, _, _, _, _, _, _, _, _, _, _, _, _, _, _, _, _, _, _, _, _], defers := _ } _
            go_wp2
            go_roundw
            case rel => exact ⟨k + 1, _, E8.out.2, by have := E7.out; omega, numEq8 (by have := E7.out; omega), numEq8 (by have := E8.out.1; omega), X6.out, BV6.out, E6.out, O6.out, N6.out, NB1x.out, A6.out, SZ6.out, AB6.out⟩
            case measure => simp [intOf]; omega
          · skip
            go_simp
            refine hK.out _ _ H (fun _ => ?_)
            clear hK KK
            change wpAnyH _ _ _ _ _ _ _ { tmps := #[_,_,_,_,_,_,_,_,_,_,_,_,_,_,_,_,_,_,_,_,_,_,_,_,_,_,_,_,_,_,_,_,_,_,_,_,_,_,_,_,_,_,_,_,_,_,_,_,_,_,_,_,_,_,_,_,_,_,_,_,_,_,_,_,_,_,_,_,_,_,_,_,_,_,_,_,_,_,_,_,_,_,_,_,_,_,_,_,_,_,_,_,_,_,_,_,_,_,_,_,_,_,_,_,_,_,_,_,_,_,_,_,_,_,_,_,_,_,_,_,_,_,_,_,_,_,_,_,_,_], defers := _ } _
            refine wpAnyH_ready (rs := [1]) (by kernel_rfl) (by simp) ?_
            refine (AllReadyH.cons rfl (fun KK hK => ?_) AllReadyH.nil)
            have lb := (BV.out.below ((Below.refl _ _).alloc (Nat.le_refl _) _) : Box2 (y0.alloc (.cells #[.int .i64 (V : Int), .int .i64 (C : Int), .string U] 54)) _ _ _ _).c0
            go_simp
            refine hK.out _ _ H (fun _ => ?_)
            clear hK KK lb
            change wpAnyH _ _ _ _ _ _ _ { tmps := #[_,_,_,_,_,_,_,_,_,_,_,_,_,_,_,_,_,_,_,_,_,_,_,_,_,_,_,_,_,_,_,_,_,_,_,_,_,_,_,_,_,_,_,_,_,_,_,_,_,_,_,_,_,_,_,_,_,_,_,_,_,_,_,_,_,_,_,_,_,_,_,_,_,_,_,_,_,_,_,_,_,_,_,_,_,_,_,_,_,_,_,_,_,_,_,_,_,_,_,_,_,_,_,_,_,_,_,_,_,_,_,_,_,_,_,_,_,_,_,_,_,_,_,_,_,_,_,_,_,_], defers := _ } _
            have hb1 : Below y0.heap.size y0 (y0.alloc (.cells #[.int .i64 (V : Int), .int .i64 (C : Int), .string U] 54)) := (Below.refl _ _).alloc (Nat.le_refl _) _
            have lc : ∀ j, j < 3 → (y0.alloc (.cells #[.int .i64 (V : Int), .int .i64 (C : Int), .string U] 54)).cell? ⟨y0.heap.size, 0 + j, none⟩ = some (rgV (⟨(V : Int), (C : Int), U⟩ : Rg) j) := litCells (w := y0) (t := 54) (cs := #[.int .i64 (V : Int), .int .i64 (C : Int), .string U]) (m := 3) (rgV (⟨(V : Int), (C : Int), U⟩ : Rg)) rfl (fun i hi => by rcases (show i = 0 ∨ i = 1 ∨ i = 2 by omega) with rfl | rfl | rfl <;> rfl)
            have szu := SZ.out
            obtain ⟨nv, w5, hr5, hE5, hg5, hl5⟩ := appRg (y0.alloc (.cells #[.int .i64 (V : Int), .int .i64 (C : Int), .string U] 54)) (w.heap.size + 1) v0 k y0.heap.size (pRg (strB T)) (⟨(V : Int), (C : Int), U⟩ : Rg) (by simp; omega) (by omega) (RV.out.below hb1) lc
            obtain ⟨na, nc, rfl⟩ := hE5.form
            refine wpAnyH_ready (rs := [21]) (by kernel_rfl) (by simp) ?_
            refine AllReadyH.cons rfl (fun KK hK => ?_) AllReadyH.nil
            rw [if_pos (by rfl)]
            refine Lib.wp_append_run _ (.tmp 38) (.tmp 57) 43 43 rfl v0 (.slice (some ⟨y0.heap.size, 0, none⟩) 1 1) rfl rfl _ _ (hr5 _) ?_
            refine hK.out _ _ H (fun _ => ?_)
            clear hK KK
            change wpAnyH _ _ _ _ _ _ _ { tmps := #[_,_,_,_,_,_,_,_,_,_,_,_,_,_,_,_,_,_,_,_,_,_,_,_,_,_,_,_,_,_,_,_,_,_,_,_,_,_,_,_,_,_,_,_,_,_,_,_,_,_,_,_,_,_,_,_,_,_,_,_,_,_,_,_,_,_,_,_,_,_,_,_,_,_,_,_,_,_,_,_,_,_,_,_,_,_,_,_,_,_,_,_,_,_,_,_,_,_,_,_,_,_,_,_,_,_,_,_,_,_,_,_,_,_,_,_,_,_,_,_,_,_,_,_,_,_,_,_,_,_], defers := _ } _
            refine wpAnyH_take (i := 22) (v := .pointer (some ⟨w.heap.size + 1 + 1 + 1, 0, none⟩)) rfl (by kernel_rfl) (by kernel_rfl) (by kernel_rfl) (fun _ _ _ h => h) (Or.inl ⟨by rfl, ?_⟩) H ?_
            · intro w' hSw; clear hSw; go_simp
            change wpAnyH _ _ _ _ _ _ _ { tmps := #[_,_,_,_,_,_,_,_,_,_,_,_,_,_,_,_,_,_,_,_,_,_,_,_,_,_,_,_,_,_,_,_,_,_,_,_,_,_,_,_,_,_,_,_,_,_,_,_,_,_,_,_,_,_,_,_,_,_,_,_,_,_,_,_,_,_,_,_,_,_,_,_,_,_,_,_,_,_,_,_,_,_,_,_,_,_,_,_,_,_,_,_,_,_,_,_,_,_,_,_,_,_,_,_,_,_,_,_,_,_,_,_,_,_,_,_,_,_,_,_,_,_,_,_,_,_,_,_,_,_], defers := _ } _
            have ob : ∀ g, v0.ownBlock = some g → w.heap.size + 1 ≤ g ∧ g ≠ w.heap.size + 1 + 1 + 1 := fun g e => ⟨(RV.out.ge g e).1, NB0.out g e⟩
            have sz2 : (y0.alloc (.cells #[.int .i64 (V : Int), .int .i64 (C : Int), .string U] 54)).heap.size = y0.heap.size + 1 := by simp
            have k5 : ∀ q, q < y0.heap.size → (∀ g, v0.ownBlock = some g → q ≠ g) → w5.heap[q]? = y0.heap[q]? := fun q hq hn => (grown_block hg5 (by rw [sz2]; omega) hn).trans (hb1.block q hq)
            have BV5 := BV.out.ofBlock (k5 _ (by omega) (fun g e q => (ob g e).2 q.symm))
            have f5 := BV5.fr 0
            have c5 := BV5.c0
            have X6 : Hid (Box2 (w5.setCell ⟨w.heap.size + 1 + 1 + 1, 0, none⟩ (.slice na (k + 1) nc)) w.heap.size 46 (.slice none 0 0) (.slice none 0 0)) := (X0.out.ofBlock (k5 _ (by omega) (fun g e q => by have := (ob g e).1; omega))).other (by simp; omega) _
            have BV6 : Hid (Box2 (w5.setCell ⟨w.heap.size + 1 + 1 + 1, 0, none⟩ (.slice na (k + 1) nc)) (w.heap.size + 1 + 1 + 1) 46 (.slice na (k + 1) nc) (.slice (some ⟨w.heap.size + 1 + 1, 0, none⟩) 0 0)) := BV5.set0 _
            have nn : ∀ g, (Value.slice na (k + 1) nc).ownBlock = some g → (v0.ownBlock = some g ∨ g = y0.heap.size + 1) := fun g e => by
              rcases hl5 with q | q
              · exact .inl (q.symm.trans e)
              · right; rw [e] at q; rw [sz2] at q; exact Option.some.inj q
            have N6 : Hid (∀ g, (Value.slice na (k + 1) nc).ownBlock = some g → g ≠ w.heap.size + 1 + 1 + 1) := fun g e => by
              rcases nn g e with q | q
              · exact (ob g q).2
              · omega
            have E6 : Hid (EO (w5.setCell ⟨w.heap.size + 1 + 1 + 1, 0, none⟩ (.slice na (k + 1) nc)) (w.heap.size + 1) 54 3 (.slice na (k + 1) nc) (k + 1) (rgF (pRg (strB T)))) := (hE5.keep (fun g e => heap_setOther _ _ (N6.out g e))).congr (fun i hi j hj => by unfold rgF updE; by_cases q : i = k; rw [if_pos q, XR.out, q]; rw [if_neg q])
            have O6 : Hid (EO (w5.setCell ⟨w.heap.size + 1 + 1 + 1, 0, none⟩ (.slice na (k + 1) nc)) (w.heap.size + 1) 100 4 (.slice (some ⟨w.heap.size + 1 + 1, 0, none⟩) 0 0) 0 (seF (fun _ => seZ))) := SV.out.keep (fun g e => (heap_setOther _ _ (NB1.out g e)).trans (k5 g (SV.out.ge g e).2 (fun g2 e2 q => AP.out g2 e2 (q ▸ e))))
            have A6 : Hid (∀ g, (Value.slice na (k + 1) nc).ownBlock = some g → (Value.slice (some ⟨w.heap.size + 1 + 1, 0, none⟩) 0 0).ownBlock ≠ some g) := fun g e q => by
              rcases nn g e with z | z
              · exact AP.out g z q
              · have := (SV.out.ge g q).2; omega
            have SZ6 : Hid (w.heap.size + 1 + 1 + 1 + 1 ≤ (w5.setCell ⟨w.heap.size + 1 + 1 + 1, 0, none⟩ (.slice na (k + 1) nc)).heap.size) := by
              have := hg5.size
              rw [sz2] at this
              show _ ≤ _
              simp
              omega
            have AB6 : Hid (Below w.heap.size w (w5.setCell ⟨w.heap.size + 1 + 1 + 1, 0, none⟩ (.slice na (k + 1) nc))) := (AB.out.trans ((hb1.mono AB.out.size).trans (grown_belowE hg5 (by rw [sz2]; omega) (fun g e => by have := (ob g e).1; omega)))).setCell (by simp; omega) _
            clear hE5 hg5 hl5 k5 BV5 lc hb1 sz2 ob nn
            refine wpAnyH_ready (rs := [23]) (by kernel_rfl) (by simp) ?_
            refine AllReadyH.cons rfl (fun KK hK => ?_) AllReadyH.nil
            go_simp
            refine hK.out _ _ H (fun _ => ?_)
            clear hK KK
            refine wpAnyH_done (by kernel_rfl) ?_ _
            refine NoPanic.normal ?_
            clear H X0 BV RV SV NB0 NB1 AP SZ AB hr5 szu f5 c5
            have E7 : Hid (P + 37 = 1 + 37 * (k + 1)) := by have := HP.out; show _ = _; omega
            have E8 : Hid (I - 1 = x0 - (k + 1) ∧ k + 1 ≤ x0) := by have := HI.out; exact ⟨by omega, by omega⟩
            have i8 : I ≤ 255 := by have := HI.out; omega
            have i9 : IntKind.i64.wrap ((I : Int) - 1) = ((I - 1 : Nat) : Int) := by rw [IntWalk.i64_in _ (by omega)]; omega
            clear NM XR es eU wV sl1 sl2
            change Exit.then _ _ Exit.normal { tmps := #[_, _, _, _, _, _, _, _, _, _, _, _, _, _, _, _, _, _, _, _, _, _, _, _, _, _, _, _, _, _, _, _, _, _, _, _, _, _, _, _, _, _, _, _, _, _, _, _, _, _, _, _, _, _, _, _, _, _, _, _, _, _, _, _, _, _, _, _, _, _, _, _, _, _, _, _, _, _, _, _, _, _, _, _, _, _, _, _, _, _, _, _, _, _, _, _, _, _, _, _, _, _, _, _, _, _, _, _, _, _, _, _, _, _, _, _, _, _, _, _, _, _, _, _, _, _, _, _, _, _], defers := _ } _
            go_wp2
            go_roundw
            case rel => exact ⟨k + 1, _, E8.out.2, by have := E7.out; omega, numEq8 (by have := E7.out; omega), numEq8 (by have := E8.out.1; omega), X6.out, BV6.out, E6.out, O6.out, N6.out, NB1x.out, A6.out, SZ6.out, AB6.out⟩
            case measure => simp [intOf]; omega
      · rcases (show I = 0 ∨ (0 < I ∧ T.size < P + 37) by omega) with hz | ⟨hz, hz2⟩
        · have KX : Hid (Whole T.size (strB T) → k = pNr (strB T)) := fun _ => by rw [HNR.out]; omega
          subst hz
          clear hI hlt
          by_cases hat : T.size ≤ P
          · have GD : Hid (¬ (Whole T.size (strB T) ∧ (pB (strB T)).Ok)) := fun q => by
              have h1 := KX.out q.1
              have h2 := q.1
              unfold Whole at h2
              omega
            have hat' : (T.size : Int) ≤ (P : Int) := by omega
            have r0 := X0.out.c0
            have r1 := X0.out.c1
            have f0 := X0.out.fr 0
            have f1 := X0.out.fr 1
            clear hP hat
            go_wp2
            exact ret_cell2 (b := w.heap.size) Tryd.results29 rfl rfl (Box2.loadB ((X0.out.set0 _).set1 _)) ⟨.inr ⟨GD.out, rfl⟩, (AB.out.setCell (by simp) _).setCell (by simp) _⟩
          · have hat' : ¬ (T.size : Int) ≤ (P : Int) := by omega
            have pl : P < T.size := by clear hP; omega
            have es := strB_eq T P pl
            have hl8 := strB_lt T P
            have pl' : (P : Int) < (T.size : Int) := by omega
            have pz : (0 : Int) ≤ (P : Int) := by omega
            have HX4 : Hid (k = pNr (strB T) → pNs (strB T) = strB T P) := fun e => by rw [pNs_at, ← e, ← hP]
            generalize strB T P = x4 at *
            have wV : IntKind.i64.wrap (x4 : Int) = (x4 : Int) := IntWalk.i64_in _ (by omega)
            have a1 : IntKind.i64.wrap ((P : Int) + 1) = ((P + 1 : Nat) : Int) := by rw [IntWalk.i64_in _ (by omega)]; omega
            clear hP hat
            go_wp2
            clear es wV a1
            replace SV : Hid (EO wr (w.heap.size + 1) 100 4 (.slice (some ⟨w.heap.size + 1 + 1, 0, none⟩) 0 0) 0 (seF (pSeO (strB T) (P + 1)))) := SV.out.congr (fun i hi => absurd hi (by omega))
            go_loopw [6, 9] (fun t i wr => ∃ (m : Nat) (v1 : Value), m ≤ x4 ∧ P + 1 + 9 * m ≤ T.size ∧ t = .int .i64 ((P + 1 + 9 * m : Nat) : Int) ∧ i = .int .i64 ((x4 - m : Nat) : Int) ∧ (Box2 wr w.heap.size 46 (.slice none 0 0) (.slice none 0 0)) ∧ (Box2 wr (w.heap.size + 1 + 1 + 1) 46 v0 v1) ∧ (EO wr (w.heap.size + 1) 54 3 v0 k (rgF (pRg (strB T)))) ∧ (EO wr (w.heap.size + 1) 100 4 v1 m (seF (pSeO (strB T) (P + 1)))) ∧ (∀ g, v0.ownBlock = some g → g ≠ w.heap.size + 1 + 1 + 1) ∧ (∀ g, v1.ownBlock = some g → g ≠ w.heap.size + 1 + 1 + 1) ∧ (∀ g, v0.ownBlock = some g → v1.ownBlock ≠ some g) ∧ (w.heap.size + 1 + 1 + 1 + 1 ≤ wr.heap.size) ∧ (Below w.heap.size w wr)) (fun _ i _ => (intOf i).toNat)
            case atStart => exact ⟨0, _, by omega, by omega, numEq8 (by omega), rfl, X0.out, BV.out, RV.out, SV.out, NB0.out, NB1.out, AP.out, SZ.out, AB.out⟩
            case round =>
              clear X0 BV RV SV NB0 NB1 AP SZ AB
              obtain ⟨m, v1, hm, hmN, rfl, rfl, X0, BV, RV, SV, NB0, NB1, AP, SZ, AB⟩ := hrel
              replace X0 : Hid (Box2 wr w.heap.size 46 (.slice none 0 0) (.slice none 0 0)) := X0
              replace BV : Hid (Box2 wr (w.heap.size + 1 + 1 + 1) 46 v0 v1) := BV
              replace RV : Hid (EO wr (w.heap.size + 1) 54 3 v0 k (rgF (pRg (strB T)))) := RV
              replace SV : Hid (EO wr (w.heap.size + 1) 100 4 v1 m (seF (pSeO (strB T) (P + 1)))) := SV
              replace NB0 : Hid (∀ g, v0.ownBlock = some g → g ≠ w.heap.size + 1 + 1 + 1) := NB0
              replace NB1 : Hid (∀ g, v1.ownBlock = some g → g ≠ w.heap.size + 1 + 1 + 1) := NB1
              replace AP : Hid (∀ g, v0.ownBlock = some g → v1.ownBlock ≠ some g) := AP
              replace SZ : Hid (w.heap.size + 1 + 1 + 1 + 1 ≤ wr.heap.size) := SZ
              replace AB : Hid (Below w.heap.size w wr) := AB
              obtain ⟨Q, hQ⟩ : ∃ Q, Q = P + 1 + 9 * m := ⟨_, rfl⟩
              have HQ : Hid (Q = P + 1 + 9 * m) := hQ
              obtain ⟨J, hJ⟩ : ∃ J, J = x4 - m := ⟨_, rfl⟩
              have HJ : Hid (J = x4 - m) := hJ
              rw [← hQ, ← hJ]
              have g0 : Q ≤ T.size := by omega
              by_cases hlt : 0 < J ∧ Q + 9 ≤ T.size
              · obtain ⟨q1, q2⟩ := hlt
                have q1' : (0 : Int) < (J : Int) := by omega
                have q2' : (Q : Int) + 9 ≤ (T.size : Int) := by omega
                have pl4 : Q + 4 < T.size := by clear hQ hJ; omega
                have es := strB_eq T (Q + 4) pl4
                have pl4' : ((Q + 4 : Nat) : Int) < (T.size : Int) := by omega
                have pl5 : (Q : Int) + 4 < (T.size : Int) := by omega
                have pz4 : (0 : Int) ≤ (Q : Int) + 4 := by omega
                have tz4 : ((Q : Int) + 4).toNat = Q + 4 := by omega
                have b2 : IntKind.i64.wrap ((Q : Int) + 2) = ((Q + 2 : Nat) : Int) := by rw [IntWalk.i64_in _ (by omega)]; omega
                have b4 : IntKind.i64.wrap ((Q : Int) + 4) = ((Q + 4 : Nat) : Int) := by rw [IntWalk.i64_in _ (by omega)]; omega
                have b5 : IntKind.i64.wrap ((Q : Int) + 5) = ((Q + 5 : Nat) : Int) := by rw [IntWalk.i64_in _ (by omega)]; omega
                have b9 : IntKind.i64.wrap ((Q : Int) + 9) = ((Q + 9 : Nat) : Int) := by rw [IntWalk.i64_in _ (by omega)]; omega
                have hl4 := strB_lt T (Q + 4)
                have NA : Hid (∀ w : World, Calls Tryd.prog 67 #[.string (T.extract Q (Q + 2))] w fun e w' => e = .returned (.int .i64 ((valN (fun j => strB T (Q + j)) 2 : Nat) : Int)) ∧ w = w') := fun w => by
                  have := l06NumberL (T.extract (Q) (Q + 2)) 2 (cut_size T (Q) 2 (by omega)) (by omega) w
                  rw [valN_congr (h := fun j => strB T (Q + j)) (fun j hj => strB_cut T (Q) 2 j (by omega) hj)] at this
                  exact this
                obtain ⟨A5, hA5⟩ : ∃ C, C = valN (fun j => strB T (Q + j)) 2 := ⟨_, rfl⟩
                rw [← hA5] at NA
                have slNA : ∀ w' : World, (Instr.slice 9 (.string T) (some (.int .i64 ((Q : Int)))) (some (.int .i64 ((Q : Int) + 2))) none).run Tryd.prog w' = .ok (.string (T.extract Q (Q + 2))) w' := fun w' => by
                  have := run_slice_string (P := Tryd.prog) w' 9 T .i64 .i64 ((Q : Int)) ((Q : Int) + 2) Tryd.underlying9 (by omega) (by omega) (by omega)
                  rwa [Int.toNat_natCast, show ((Q : Int) + 2).toNat = Q + 2 from by omega] at this
                have NC : Hid (∀ w : World, Calls Tryd.prog 67 #[.string (T.extract (Q + 2) (Q + 4))] w fun e w' => e = .returned (.int .i64 ((valN (fun j => strB T (Q + 2 + j)) 2 : Nat) : Int)) ∧ w = w') := fun w => by
                  have := l06NumberL (T.extract (Q + 2) (Q + 2 + 2)) 2 (cut_size T (Q + 2) 2 (by omega)) (by omega) w
                  rw [valN_congr (h := fun j => strB T (Q + 2 + j)) (fun j hj => strB_cut T (Q + 2) 2 j (by omega) hj)] at this
                  exact this
                obtain ⟨A6, hA6⟩ : ∃ C, C = valN (fun j => strB T (Q + 2 + j)) 2 := ⟨_, rfl⟩
                rw [← hA6] at NC
                have slNC : ∀ w' : World, (Instr.slice 9 (.string T) (some (.int .i64 ((Q : Int) + 2))) (some (.int .i64 ((Q : Int) + 4))) none).run Tryd.prog w' = .ok (.string (T.extract (Q + 2) (Q + 4))) w' := fun w' => by
                  have := run_slice_string (P := Tryd.prog) w' 9 T .i64 .i64 ((Q : Int) + 2) ((Q : Int) + 4) Tryd.underlying9 (by omega) (by omega) (by omega)
                  rwa [show ((Q : Int) + 2).toNat = Q + 2 from by omega, show ((Q : Int) + 4).toNat = Q + 4 from by omega] at this
                have ND : Hid (∀ w : World, Calls Tryd.prog 67 #[.string (T.extract (Q + 5) (Q + 9))] w fun e w' => e = .returned (.int .i64 ((valN (fun j => strB T (Q + 5 + j)) 4 : Nat) : Int)) ∧ w = w') := fun w => by
                  have := l06NumberL (T.extract (Q + 5) (Q + 5 + 4)) 4 (cut_size T (Q + 5) 4 (by omega)) (by omega) w
                  rw [valN_congr (h := fun j => strB T (Q + 5 + j)) (fun j hj => strB_cut T (Q + 5) 4 j (by omega) hj)] at this
                  exact this
                obtain ⟨A8, hA8⟩ : ∃ C, C = valN (fun j => strB T (Q + 5 + j)) 4 := ⟨_, rfl⟩
                rw [← hA8] at ND
                have slND : ∀ w' : World, (Instr.slice 9 (.string T) (some (.int .i64 ((Q : Int) + 5))) (some (.int .i64 ((Q : Int) + 9))) none).run Tryd.prog w' = .ok (.string (T.extract (Q + 5) (Q + 9))) w' := fun w' => by
                  have := run_slice_string (P := Tryd.prog) w' 9 T .i64 .i64 ((Q : Int) + 5) ((Q : Int) + 9) Tryd.underlying9 (by omega) (by omega) (by omega)
                  rwa [show ((Q : Int) + 5).toNat = Q + 5 from by omega, show ((Q : Int) + 9).toNat = Q + 9 from by omega] at this
                obtain ⟨A7, hA7⟩ : ∃ V, V = strB T (Q + 4) := ⟨_, rfl⟩
                have XR : Hid ((⟨(A5 : Int), (A6 : Int), (A7 : Int), (A8 : Int)⟩ : Se) = pSeO (strB T) (P + 1) m) := by
                  show _ = _
                  unfold pSeO
                  rw [hA5, hA6, hA7, hA8, hQ]
                  simp [valN]
                rw [← hA7] at es hl4
                have wV : IntKind.i64.wrap (A7 : Int) = (A7 : Int) := IntWalk.i64_in _ (by omega)
                clear hA5 hA6 hA7 hA8 hQ hJ
                have NB0x : Hid (∀ g, v0.ownBlock = some g → g ≠ w.heap.size + 1 + 1 + 1) := NB0.out
                go_wp2_with fail
                have H : True := trivial
                have hbd : Below wr.heap.size wr wr.drew := (Below.refl _ _).drew
                replace X0 : Hid (Box2 wr.drew w.heap.size 46 (.slice none 0 0) (.slice none 0 0)) := X0.out.below hbd
                replace BV : Hid (Box2 wr.drew (w.heap.size + 1 + 1 + 1) 46 v0 v1) := BV.out.below hbd
                replace RV : Hid (EO wr.drew (w.heap.size + 1) 54 3 v0 k (rgF (pRg (strB T)))) := RV.out.below hbd
                replace SV : Hid (EO wr.drew (w.heap.size + 1) 100 4 v1 m (seF (pSeO (strB T) (P + 1)))) := SV.out.below hbd
                replace NB0 : Hid (∀ g, v0.ownBlock = some g → g ≠ w.heap.size + 1 + 1 + 1) := NB0.out
                replace NB1 : Hid (∀ g, v1.ownBlock = some g → g ≠ w.heap.size + 1 + 1 + 1) := NB1.out
                replace AP : Hid (∀ g, v0.ownBlock = some g → v1.ownBlock ≠ some g) := AP.out
                replace SZ : Hid (w.heap.size + 1 + 1 + 1 + 1 ≤ wr.drew.heap.size) := Nat.le_trans SZ.out hbd.size
                replace AB : Hid (Below w.heap.size w wr.drew) := AB.out.trans (hbd.mono AB.out.size)
                refine wp_region_noPanic ?_
                refine wp_region_held_drew (S := fun _ => True) (by kernel_rfl) H (fun _ => ?_)
                clear hbd
                generalize wr.drew = y0 at *
                refine wpAnyH_take (i := 0) (v := .pointer (some ⟨w.heap.size + 1 + 1 + 1, 1, none⟩)) rfl (by kernel_rfl) (by kernel_rfl) (by kernel_rfl) (fun _ _ _ h => h) (Or.inl ⟨by rfl, ?_⟩) H ?_
                · intro w' hSw; clear hSw; go_simp
                change wpAnyH _ _ _ _ _ _ _ { tmps := #[_,_,_,_,_,_,_,_,_,_,_,_,_,_,_,_,_,_,_,_,_,_,_,_,_,_,_,_,_,_,_,_,_,_,_,_,_,_,_,_,_,_,_,_,_,_,_,_,_,_,_,_,_,_,_,_,_,_,_,_,_,_,_,_,_,_,_,_,_,_,_,_,_,_,_,_,_,_,_,_,_,_,_,_,_,_,_,_,_,_,_,_,_,_,_,_,_,_,_,_,_,_,_,_,_,_,_,_,_,_,_,_,_,_,_,_,_,_,_,_,_,_,_,_,_,_,_,_,_,_], defers := _ } _
                refine wpAnyH_take (i := 2) (v := .string T) rfl (by kernel_rfl) (by kernel_rfl) (by kernel_rfl) (fun _ _ _ h => h) (Or.inl ⟨by rfl, ?_⟩) H ?_
                · intro w' hSw; clear hSw; go_simp
                change wpAnyH _ _ _ _ _ _ _ { tmps := #[_,_,_,_,_,_,_,_,_,_,_,_,_,_,_,_,_,_,_,_,_,_,_,_,_,_,_,_,_,_,_,_,_,_,_,_,_,_,_,_,_,_,_,_,_,_,_,_,_,_,_,_,_,_,_,_,_,_,_,_,_,_,_,_,_,_,_,_,_,_,_,_,_,_,_,_,_,_,_,_,_,_,_,_,_,_,_,_,_,_,_,_,_,_,_,_,_,_,_,_,_,_,_,_,_,_,_,_,_,_,_,_,_,_,_,_,_,_,_,_,_,_,_,_,_,_,_,_,_,_], defers := _ } _
                refine wpAnyH_take (i := 3) (v := .int .i64 (Q : Int)) rfl (by kernel_rfl) (by kernel_rfl) (by kernel_rfl) (fun _ _ _ h => h) (Or.inl ⟨by rfl, ?_⟩) H ?_
                · intro w' hSw; clear hSw; go_simp
                change wpAnyH _ _ _ _ _ _ _ { tmps := #[_,_,_,_,_,_,_,_,_,_,_,_,_,_,_,_,_,_,_,_,_,_,_,_,_,_,_,_,_,_,_,_,_,_,_,_,_,_,_,_,_,_,_,_,_,_,_,_,_,_,_,_,_,_,_,_,_,_,_,_,_,_,_,_,_,_,_,_,_,_,_,_,_,_,_,_,_,_,_,_,_,_,_,_,_,_,_,_,_,_,_,_,_,_,_,_,_,_,_,_,_,_,_,_,_,_,_,_,_,_,_,_,_,_,_,_,_,_,_,_,_,_,_,_,_,_,_,_,_,_], defers := _ } _
                refine wpAnyH_take (i := 4) (v := .int .i64 (Q : Int)) rfl (by kernel_rfl) (by kernel_rfl) (by kernel_rfl) (fun _ _ _ h => h) (Or.inl ⟨by rfl, ?_⟩) H ?_
                · intro w' hSw; clear hSw; go_simp
                change wpAnyH _ _ _ _ _ _ _ { tmps := #[_,_,_,_,_,_,_,_,_,_,_,_,_,_,_,_,_,_,_,_,_,_,_,_,_,_,_,_,_,_,_,_,_,_,_,_,_,_,_,_,_,_,_,_,_,_,_,_,_,_,_,_,_,_,_,_,_,_,_,_,_,_,_,_,_,_,_,_,_,_,_,_,_,_,_,_,_,_,_,_,_,_,_,_,_,_,_,_,_,_,_,_,_,_,_,_,_,_,_,_,_,_,_,_,_,_,_,_,_,_,_,_,_,_,_,_,_,_,_,_,_,_,_,_,_,_,_,_,_,_], defers := _ } _
                refine wpAnyH_take (i := 5) (v := .int .i64 ((Q + 2 : Nat) : Int)) rfl (by kernel_rfl) (by kernel_rfl) (by kernel_rfl) (fun _ _ _ h => h) (Or.inl ⟨by rfl, ?_⟩) H ?_
                · intro w' hSw; clear hSw; go_simp
                change wpAnyH _ _ _ _ _ _ _ { tmps := #[_,_,_,_,_,_,_,_,_,_,_,_,_,_,_,_,_,_,_,_,_,_,_,_,_,_,_,_,_,_,_,_,_,_,_,_,_,_,_,_,_,_,_,_,_,_,_,_,_,_,_,_,_,_,_,_,_,_,_,_,_,_,_,_,_,_,_,_,_,_,_,_,_,_,_,_,_,_,_,_,_,_,_,_,_,_,_,_,_,_,_,_,_,_,_,_,_,_,_,_,_,_,_,_,_,_,_,_,_,_,_,_,_,_,_,_,_,_,_,_,_,_,_,_,_,_,_,_,_,_], defers := _ } _
                refine wpAnyH_take (i := 6) (v := .string (T.extract Q (Q + 2))) rfl (by kernel_rfl) (by kernel_rfl) (by kernel_rfl) (fun _ _ _ h => h) (Or.inl ⟨by rfl, ?_⟩) H ?_
                · intro w' hSw; clear hSw; go_simp
                change wpAnyH _ _ _ _ _ _ _ { tmps := #[_,_,_,_,_,_,_,_,_,_,_,_,_,_,_,_,_,_,_,_,_,_,_,_,_,_,_,_,_,_,_,_,_,_,_,_,_,_,_,_,_,_,_,_,_,_,_,_,_,_,_,_,_,_,_,_,_,_,_,_,_,_,_,_,_,_,_,_,_,_,_,_,_,_,_,_,_,_,_,_,_,_,_,_,_,_,_,_,_,_,_,_,_,_,_,_,_,_,_,_,_,_,_,_,_,_,_,_,_,_,_,_,_,_,_,_,_,_,_,_,_,_,_,_,_,_,_,_,_,_], defers := _ } _
                refine wpAnyH_take (i := 8) (v := .string T) rfl (by kernel_rfl) (by kernel_rfl) (by kernel_rfl) (fun _ _ _ h => h) (Or.inl ⟨by rfl, ?_⟩) H ?_
                · intro w' hSw; clear hSw; go_simp
                change wpAnyH _ _ _ _ _ _ _ { tmps := #[_,_,_,_,_,_,_,_,_,_,_,_,_,_,_,_,_,_,_,_,_,_,_,_,_,_,_,_,_,_,_,_,_,_,_,_,_,_,_,_,_,_,_,_,_,_,_,_,_,_,_,_,_,_,_,_,_,_,_,_,_,_,_,_,_,_,_,_,_,_,_,_,_,_,_,_,_,_,_,_,_,_,_,_,_,_,_,_,_,_,_,_,_,_,_,_,_,_,_,_,_,_,_,_,_,_,_,_,_,_,_,_,_,_,_,_,_,_,_,_,_,_,_,_,_,_,_,_,_,_], defers := _ } _
                refine wpAnyH_take (i := 9) (v := .int .i64 (Q : Int)) rfl (by kernel_rfl) (by kernel_rfl) (by kernel_rfl) (fun _ _ _ h => h) (Or.inl ⟨by rfl, ?_⟩) H ?_
                · intro w' hSw; clear hSw; go_simp
                change wpAnyH _ _ _ _ _ _ _ { tmps := #[_,_,_,_,_,_,_,_,_,_,_,_,_,_,_,_,_,_,_,_,_,_,_,_,_,_,_,_,_,_,_,_,_,_,_,_,_,_,_,_,_,_,_,_,_,_,_,_,_,_,_,_,_,_,_,_,_,_,_,_,_,_,_,_,_,_,_,_,_,_,_,_,_,_,_,_,_,_,_,_,_,_,_,_,_,_,_,_,_,_,_,_,_,_,_,_,_,_,_,_,_,_,_,_,_,_,_,_,_,_,_,_,_,_,_,_,_,_,_,_,_,_,_,_,_,_,_,_,_,_], defers := _ } _
                refine wpAnyH_take (i := 10) (v := .int .i64 ((Q + 2 : Nat) : Int)) rfl (by kernel_rfl) (by kernel_rfl) (by kernel_rfl) (fun _ _ _ h => h) (Or.inl ⟨by rfl, ?_⟩) H ?_
                · intro w' hSw; clear hSw; go_simp
                change wpAnyH _ _ _ _ _ _ _ { tmps := #[_,_,_,_,_,_,_,_,_,_,_,_,_,_,_,_,_,_,_,_,_,_,_,_,_,_,_,_,_,_,_,_,_,_,_,_,_,_,_,_,_,_,_,_,_,_,_,_,_,_,_,_,_,_,_,_,_,_,_,_,_,_,_,_,_,_,_,_,_,_,_,_,_,_,_,_,_,_,_,_,_,_,_,_,_,_,_,_,_,_,_,_,_,_,_,_,_,_,_,_,_,_,_,_,_,_,_,_,_,_,_,_,_,_,_,_,_,_,_,_,_,_,_,_,_,_,_,_,_,_], defers := _ } _
                refine wpAnyH_take (i := 11) (v := .int .i64 (Q : Int)) rfl (by kernel_rfl) (by kernel_rfl) (by kernel_rfl) (fun _ _ _ h => h) (Or.inl ⟨by rfl, ?_⟩) H ?_
                · intro w' hSw; clear hSw; go_simp
                change wpAnyH _ _ _ _ _ _ _ { tmps := #[_,_,_,_,_,_,_,_,_,_,_,_,_,_,_,_,_,_,_,_,_,_,_,_,_,_,_,_,_,_,_,_,_,_,_,_,_,_,_,_,_,_,_,_,_,_,_,_,_,_,_,_,_,_,_,_,_,_,_,_,_,_,_,_,_,_,_,_,_,_,_,_,_,_,_,_,_,_,_,_,_,_,_,_,_,_,_,_,_,_,_,_,_,_,_,_,_,_,_,_,_,_,_,_,_,_,_,_,_,_,_,_,_,_,_,_,_,_,_,_,_,_,_,_,_,_,_,_,_,_], defers := _ } _
                refine wpAnyH_take (i := 12) (v := .int .i64 ((Q + 4 : Nat) : Int)) rfl (by kernel_rfl) (by kernel_rfl) (by kernel_rfl) (fun _ _ _ h => h) (Or.inl ⟨by rfl, ?_⟩) H ?_
                · intro w' hSw; clear hSw; go_simp
                change wpAnyH _ _ _ _ _ _ _ { tmps := #[_,_,_,_,_,_,_,_,_,_,_,_,_,_,_,_,_,_,_,_,_,_,_,_,_,_,_,_,_,_,_,_,_,_,_,_,_,_,_,_,_,_,_,_,_,_,_,_,_,_,_,_,_,_,_,_,_,_,_,_,_,_,_,_,_,_,_,_,_,_,_,_,_,_,_,_,_,_,_,_,_,_,_,_,_,_,_,_,_,_,_,_,_,_,_,_,_,_,_,_,_,_,_,_,_,_,_,_,_,_,_,_,_,_,_,_,_,_,_,_,_,_,_,_,_,_,_,_,_,_], defers := _ } _
                refine wpAnyH_take (i := 13) (v := .string (T.extract (Q + 2) (Q + 4))) rfl (by kernel_rfl) (by kernel_rfl) (by kernel_rfl) (fun _ _ _ h => h) (Or.inl ⟨by rfl, ?_⟩) H ?_
                · intro w' hSw; clear hSw; go_simp
                change wpAnyH _ _ _ _ _ _ _ { tmps := #[_,_,_,_,_,_,_,_,_,_,_,_,_,_,_,_,_,_,_,_,_,_,_,_,_,_,_,_,_,_,_,_,_,_,_,_,_,_,_,_,_,_,_,_,_,_,_,_,_,_,_,_,_,_,_,_,_,_,_,_,_,_,_,_,_,_,_,_,_,_,_,_,_,_,_,_,_,_,_,_,_,_,_,_,_,_,_,_,_,_,_,_,_,_,_,_,_,_,_,_,_,_,_,_,_,_,_,_,_,_,_,_,_,_,_,_,_,_,_,_,_,_,_,_,_,_,_,_,_,_], defers := _ } _
                refine wpAnyH_take (i := 15) (v := .string T) rfl (by kernel_rfl) (by kernel_rfl) (by kernel_rfl) (fun _ _ _ h => h) (Or.inl ⟨by rfl, ?_⟩) H ?_
                · intro w' hSw; clear hSw; go_simp
                change wpAnyH _ _ _ _ _ _ _ { tmps := #[_,_,_,_,_,_,_,_,_,_,_,_,_,_,_,_,_,_,_,_,_,_,_,_,_,_,_,_,_,_,_,_,_,_,_,_,_,_,_,_,_,_,_,_,_,_,_,_,_,_,_,_,_,_,_,_,_,_,_,_,_,_,_,_,_,_,_,_,_,_,_,_,_,_,_,_,_,_,_,_,_,_,_,_,_,_,_,_,_,_,_,_,_,_,_,_,_,_,_,_,_,_,_,_,_,_,_,_,_,_,_,_,_,_,_,_,_,_,_,_,_,_,_,_,_,_,_,_,_,_], defers := _ } _
                refine wpAnyH_take (i := 16) (v := .int .i64 (Q : Int)) rfl (by kernel_rfl) (by kernel_rfl) (by kernel_rfl) (fun _ _ _ h => h) (Or.inl ⟨by rfl, ?_⟩) H ?_
                · intro w' hSw; clear hSw; go_simp
                change wpAnyH _ _ _ _ _ _ _ { tmps := #[_,_,_,_,_,_,_,_,_,_,_,_,_,_,_,_,_,_,_,_,_,_,_,_,_,_,_,_,_,_,_,_,_,_,_,_,_,_,_,_,_,_,_,_,_,_,_,_,_,_,_,_,_,_,_,_,_,_,_,_,_,_,_,_,_,_,_,_,_,_,_,_,_,_,_,_,_,_,_,_,_,_,_,_,_,_,_,_,_,_,_,_,_,_,_,_,_,_,_,_,_,_,_,_,_,_,_,_,_,_,_,_,_,_,_,_,_,_,_,_,_,_,_,_,_,_,_,_,_,_], defers := _ } _
                refine wpAnyH_take (i := 17) (v := .int .i64 ((Q + 4 : Nat) : Int)) rfl (by kernel_rfl) (by kernel_rfl) (by kernel_rfl) (fun _ _ _ h => h) (Or.inl ⟨by rfl, ?_⟩) H ?_
                · intro w' hSw; clear hSw; go_simp
                change wpAnyH _ _ _ _ _ _ _ { tmps := #[_,_,_,_,_,_,_,_,_,_,_,_,_,_,_,_,_,_,_,_,_,_,_,_,_,_,_,_,_,_,_,_,_,_,_,_,_,_,_,_,_,_,_,_,_,_,_,_,_,_,_,_,_,_,_,_,_,_,_,_,_,_,_,_,_,_,_,_,_,_,_,_,_,_,_,_,_,_,_,_,_,_,_,_,_,_,_,_,_,_,_,_,_,_,_,_,_,_,_,_,_,_,_,_,_,_,_,_,_,_,_,_,_,_,_,_,_,_,_,_,_,_,_,_,_,_,_,_,_,_], defers := _ } _
                refine wpAnyH_take (i := 18) (v := .int .u8 (A7 : Int)) rfl (by kernel_rfl) (by kernel_rfl) (by kernel_rfl) (fun _ _ _ h => h) (Or.inl ⟨by rfl, ?_⟩) H ?_
                · intro w' hSw; clear hSw; go_simp
                change wpAnyH _ _ _ _ _ _ _ { tmps := #[_,_,_,_,_,_,_,_,_,_,_,_,_,_,_,_,_,_,_,_,_,_,_,_,_,_,_,_,_,_,_,_,_,_,_,_,_,_,_,_,_,_,_,_,_,_,_,_,_,_,_,_,_,_,_,_,_,_,_,_,_,_,_,_,_,_,_,_,_,_,_,_,_,_,_,_,_,_,_,_,_,_,_,_,_,_,_,_,_,_,_,_,_,_,_,_,_,_,_,_,_,_,_,_,_,_,_,_,_,_,_,_,_,_,_,_,_,_,_,_,_,_,_,_,_,_,_,_,_,_], defers := _ } _
                refine wpAnyH_take (i := 19) (v := .int .i64 (A7 : Int)) rfl (by kernel_rfl) (by kernel_rfl) (by kernel_rfl) (fun _ _ _ h => h) (Or.inl ⟨by rfl, ?_⟩) H ?_
                · intro w' hSw; clear hSw; go_simp
                change wpAnyH _ _ _ _ _ _ _ { tmps := #[_,_,_,_,_,_,_,_,_,_,_,_,_,_,_,_,_,_,_,_,_,_,_,_,_,_,_,_,_,_,_,_,_,_,_,_,_,_,_,_,_,_,_,_,_,_,_,_,_,_,_,_,_,_,_,_,_,_,_,_,_,_,_,_,_,_,_,_,_,_,_,_,_,_,_,_,_,_,_,_,_,_,_,_,_,_,_,_,_,_,_,_,_,_,_,_,_,_,_,_,_,_,_,_,_,_,_,_,_,_,_,_,_,_,_,_,_,_,_,_,_,_,_,_,_,_,_,_,_,_], defers := _ } _
                refine wpAnyH_take (i := 20) (v := .string T) rfl (by kernel_rfl) (by kernel_rfl) (by kernel_rfl) (fun _ _ _ h => h) (Or.inl ⟨by rfl, ?_⟩) H ?_
                · intro w' hSw; clear hSw; go_simp
                change wpAnyH _ _ _ _ _ _ _ { tmps := #[_,_,_,_,_,_,_,_,_,_,_,_,_,_,_,_,_,_,_,_,_,_,_,_,_,_,_,_,_,_,_,_,_,_,_,_,_,_,_,_,_,_,_,_,_,_,_,_,_,_,_,_,_,_,_,_,_,_,_,_,_,_,_,_,_,_,_,_,_,_,_,_,_,_,_,_,_,_,_,_,_,_,_,_,_,_,_,_,_,_,_,_,_,_,_,_,_,_,_,_,_,_,_,_,_,_,_,_,_,_,_,_,_,_,_,_,_,_,_,_,_,_,_,_,_,_,_,_,_,_], defers := _ } _
                refine wpAnyH_take (i := 21) (v := .int .i64 (Q : Int)) rfl (by kernel_rfl) (by kernel_rfl) (by kernel_rfl) (fun _ _ _ h => h) (Or.inl ⟨by rfl, ?_⟩) H ?_
                · intro w' hSw; clear hSw; go_simp
                change wpAnyH _ _ _ _ _ _ _ { tmps := #[_,_,_,_,_,_,_,_,_,_,_,_,_,_,_,_,_,_,_,_,_,_,_,_,_,_,_,_,_,_,_,_,_,_,_,_,_,_,_,_,_,_,_,_,_,_,_,_,_,_,_,_,_,_,_,_,_,_,_,_,_,_,_,_,_,_,_,_,_,_,_,_,_,_,_,_,_,_,_,_,_,_,_,_,_,_,_,_,_,_,_,_,_,_,_,_,_,_,_,_,_,_,_,_,_,_,_,_,_,_,_,_,_,_,_,_,_,_,_,_,_,_,_,_,_,_,_,_,_,_], defers := _ } _
                refine wpAnyH_take (i := 22) (v := .int .i64 ((Q + 5 : Nat) : Int)) rfl (by kernel_rfl) (by kernel_rfl) (by kernel_rfl) (fun _ _ _ h => h) (Or.inl ⟨by rfl, ?_⟩) H ?_
                · intro w' hSw; clear hSw; go_simp
                change wpAnyH _ _ _ _ _ _ _ { tmps := #[_,_,_,_,_,_,_,_,_,_,_,_,_,_,_,_,_,_,_,_,_,_,_,_,_,_,_,_,_,_,_,_,_,_,_,_,_,_,_,_,_,_,_,_,_,_,_,_,_,_,_,_,_,_,_,_,_,_,_,_,_,_,_,_,_,_,_,_,_,_,_,_,_,_,_,_,_,_,_,_,_,_,_,_,_,_,_,_,_,_,_,_,_,_,_,_,_,_,_,_,_,_,_,_,_,_,_,_,_,_,_,_,_,_,_,_,_,_,_,_,_,_,_,_,_,_,_,_,_,_], defers := _ } _
                refine wpAnyH_take (i := 23) (v := .int .i64 (Q : Int)) rfl (by kernel_rfl) (by kernel_rfl) (by kernel_rfl) (fun _ _ _ h => h) (Or.inl ⟨by rfl, ?_⟩) H ?_
                · intro w' hSw; clear hSw; go_simp
                change wpAnyH _ _ _ _ _ _ _ { tmps := #[_,_,_,_,_,_,_,_,_,_,_,_,_,_,_,_,_,_,_,_,_,_,_,_,_,_,_,_,_,_,_,_,_,_,_,_,_,_,_,_,_,_,_,_,_,_,_,_,_,_,_,_,_,_,_,_,_,_,_,_,_,_,_,_,_,_,_,_,_,_,_,_,_,_,_,_,_,_,_,_,_,_,_,_,_,_,_,_,_,_,_,_,_,_,_,_,_,_,_,_,_,_,_,_,_,_,_,_,_,_,_,_,_,_,_,_,_,_,_,_,_,_,_,_,_,_,_,_,_,_], defers := _ } _
                refine wpAnyH_take (i := 24) (v := .int .i64 ((Q + 9 : Nat) : Int)) rfl (by kernel_rfl) (by kernel_rfl) (by kernel_rfl) (fun _ _ _ h => h) (Or.inl ⟨by rfl, ?_⟩) H ?_
                · intro w' hSw; clear hSw; go_simp
                change wpAnyH _ _ _ _ _ _ _ { tmps := #[_,_,_,_,_,_,_,_,_,_,_,_,_,_,_,_,_,_,_,_,_,_,_,_,_,_,_,_,_,_,_,_,_,_,_,_,_,_,_,_,_,_,_,_,_,_,_,_,_,_,_,_,_,_,_,_,_,_,_,_,_,_,_,_,_,_,_,_,_,_,_,_,_,_,_,_,_,_,_,_,_,_,_,_,_,_,_,_,_,_,_,_,_,_,_,_,_,_,_,_,_,_,_,_,_,_,_,_,_,_,_,_,_,_,_,_,_,_,_,_,_,_,_,_,_,_,_,_,_,_], defers := _ } _
                refine wpAnyH_take (i := 25) (v := .string (T.extract (Q + 5) (Q + 9))) rfl (by kernel_rfl) (by kernel_rfl) (by kernel_rfl) (fun _ _ _ h => h) (Or.inl ⟨by rfl, ?_⟩) H ?_
                · intro w' hSw; clear hSw; go_simp
                change wpAnyH _ _ _ _ _ _ _ { tmps := #[_,_,_,_,_,_,_,_,_,_,_,_,_,_,_,_,_,_,_,_,_,_,_,_,_,_,_,_,_,_,_,_,_,_,_,_,_,_,_,_,_,_,_,_,_,_,_,_,_,_,_,_,_,_,_,_,_,_,_,_,_,_,_,_,_,_,_,_,_,_,_,_,_,_,_,_,_,_,_,_,_,_,_,_,_,_,_,_,_,_,_,_,_,_,_,_,_,_,_,_,_,_,_,_,_,_,_,_,_,_,_,_,_,_,_,_,_,_,_,_,_,_,_,_,_,_,_,_,_,_], defers := _ } _
                refine wpAnyH_ready (rs := [1, 7]) (by kernel_rfl) (by simp) ?_
                refine (AllReadyH.cons rfl (fun KK hK => ?_) (AllReadyH.cons rfl (fun KK hK => ?_) AllReadyH.nil))
                · skip
                  have lb := BV.out.c1
                  go_simp
                  refine hK.out _ _ H (fun _ => ?_)
                  clear hK KK lb
                  change wpAnyH _ _ _ _ _ _ _ { tmps := #[_,_,_,_,_,_,_,_,_,_,_,_,_,_,_,_,_,_,_,_,_,_,_,_,_,_,_,_,_,_,_,_,_,_,_,_,_,_,_,_,_,_,_,_,_,_,_,_,_,_,_,_,_,_,_,_,_,_,_,_,_,_,_,_,_,_,_,_,_,_,_,_,_,_,_,_,_,_,_,_,_,_,_,_,_,_,_,_,_,_,_,_,_,_,_,_,_,_,_,_,_,_,_,_,_,_,_,_,_,_,_,_,_,_,_,_,_,_,_,_,_,_,_,_,_,_,_,_,_,_], defers := _ } _
                  refine wpAnyH_ready (rs := [7]) (by kernel_rfl) (by simp) ?_
                  refine (AllReadyH.cons rfl (fun KK hK => ?_) AllReadyH.nil)
                  go_simp
                  refine (NA.out _).mono ?_
                  rintro e _ ⟨rfl, rfl⟩
                  refine hK.out _ _ H (fun _ => ?_)
                  clear hK KK
                  change wpAnyH _ _ _ _ _ _ _ { tmps := #[_,_,_,_,_,_,_,_,_,_,_,_,_,_,_,_,_,_,_,_,_,_,_,_,_,_,_,_,_,_,_,_,_,_,_,_,_,_,_,_,_,_,_,_,_,_,_,_,_,_,_,_,_,_,_,_,_,_,_,_,_,_,_,_,_,_,_,_,_,_,_,_,_,_,_,_,_,_,_,_,_,_,_,_,_,_,_,_,_,_,_,_,_,_,_,_,_,_,_,_,_,_,_,_,_,_,_,_,_,_,_,_,_,_,_,_,_,_,_,_,_,_,_,_,_,_,_,_,_,_], defers := _ } _
                  refine wpAnyH_ready (rs := [14]) (by kernel_rfl) (by simp) ?_
                  refine (AllReadyH.cons rfl (fun KK hK => ?_) AllReadyH.nil)
                  go_simp
                  refine (NC.out _).mono ?_
                  rintro e _ ⟨rfl, rfl⟩
                  refine hK.out _ _ H (fun _ => ?_)
                  clear hK KK
                  change wpAnyH _ _ _ _ _ _ _ { tmps := #[_,_,_,_,_,_,_,_,_,_,_,_,_,_,_,_,_,_,_,_,_,_,_,_,_,_,_,_,_,_,_,_,_,_,_,_,_,_,_,_,_,_,_,_,_,_,_,_,_,_,_,_,_,_,_,_,_,_,_,_,_,_,_,_,_,_,_,_,_,_,_,_,_,_,_,_,_,_,_,_,_,_,_,_,_,_,_,_,_,_,_,_,_,_,_,_,_,_,_,_,_,_,_,_,_,_,_,_,_,_,_,_,_,_,_,_,_,_,_,_,_,_,_,_,_,_,_,_,_,_], defers := _ } _
                  refine wpAnyH_ready (rs := [26]) (by kernel_rfl) (by simp) ?_
                  refine (AllReadyH.cons rfl (fun KK hK => ?_) AllReadyH.nil)
                  go_simp
                  refine (ND.out _).mono ?_
                  rintro e _ ⟨rfl, rfl⟩
                  refine hK.out _ _ H (fun _ => ?_)
                  clear hK KK
                  change wpAnyH _ _ _ _ _ _ _ { tmps := #[_,_,_,_,_,_,_,_,_,_,_,_,_,_,_,_,_,_,_,_,_,_,_,_,_,_,_,_,_,_,_,_,_,_,_,_,_,_,_,_,_,_,_,_,_,_,_,_,_,_,_,_,_,_,_,_,_,_,_,_,_,_,_,_,_,_,_,_,_,_,_,_,_,_,_,_,_,_,_,_,_,_,_,_,_,_,_,_,_,_,_,_,_,_,_,_,_,_,_,_,_,_,_,_,_,_,_,_,_,_,_,_,_,_,_,_,_,_,_,_,_,_,_,_,_,_,_,_,_,_], defers := _ } _
                  refine wpAnyH_take (i := 27) (v := .agg #[.int .i64 (A5 : Int), .int .i64 (A6 : Int), .int .i64 (A7 : Int), .int .i64 (A8 : Int)]) rfl (by kernel_rfl) (by kernel_rfl) (by kernel_rfl) (fun _ _ _ h => h) (Or.inl ⟨by rfl, ?_⟩) H ?_
                  · intro w' hSw; clear hSw; go_simp
                  change wpAnyH _ _ _ _ _ _ _ { tmps := #[_,_,_,_,_,_,_,_,_,_,_,_,_,_,_,_,_,_,_,_,_,_,_,_,_,_,_,_,_,_,_,_,_,_,_,_,_,_,_,_,_,_,_,_,_,_,_,_,_,_,_,_,_,_,_,_,_,_,_,_,_,_,_,_,_,_,_,_,_,_,_,_,_,_,_,_,_,_,_,_,_,_,_,_,_,_,_,_,_,_,_,_,_,_,_,_,_,_,_,_,_,_,_,_,_,_,_,_,_,_,_,_,_,_,_,_,_,_,_,_,_,_,_,_,_,_,_,_,_,_], defers := _ } _
                  refine wpAnyH_ready (rs := [28]) (by kernel_rfl) (by simp) ?_
                  refine (AllReadyH.cons rfl (fun KK hK => ?_) AllReadyH.nil)
                  go_simp
                  refine hK.out _ _ H (fun _ => ?_)
                  clear hK KK
                  change wpAnyH _ _ _ _ _ _ _ { tmps := #[_,_,_,_,_,_,_,_,_,_,_,_,_,_,_,_,_,_,_,_,_,_,_,_,_,_,_,_,_,_,_,_,_,_,_,_,_,_,_,_,_,_,_,_,_,_,_,_,_,_,_,_,_,_,_,_,_,_,_,_,_,_,_,_,_,_,_,_,_,_,_,_,_,_,_,_,_,_,_,_,_,_,_,_,_,_,_,_,_,_,_,_,_,_,_,_,_,_,_,_,_,_,_,_,_,_,_,_,_,_,_,_,_,_,_,_,_,_,_,_,_,_,_,_,_,_,_,_,_,_], defers := _ } _
                  have hb1 : Below y0.heap.size y0 (y0.alloc (.cells #[.int .i64 (A5 : Int), .int .i64 (A6 : Int), .int .i64 (A7 : Int), .int .i64 (A8 : Int)] 100)) := (Below.refl _ _).alloc (Nat.le_refl _) _
                  have lc : ∀ j, j < 4 → (y0.alloc (.cells #[.int .i64 (A5 : Int), .int .i64 (A6 : Int), .int .i64 (A7 : Int), .int .i64 (A8 : Int)] 100)).cell? ⟨y0.heap.size, 0 + j, none⟩ = some (seV (⟨(A5 : Int), (A6 : Int), (A7 : Int), (A8 : Int)⟩ : Se) j) := litCells (w := y0) (t := 100) (cs := #[.int .i64 (A5 : Int), .int .i64 (A6 : Int), .int .i64 (A7 : Int), .int .i64 (A8 : Int)]) (m := 4) (seV (⟨(A5 : Int), (A6 : Int), (A7 : Int), (A8 : Int)⟩ : Se)) rfl (fun i hi => by rcases (show i = 0 ∨ i = 1 ∨ i = 2 ∨ i = 3 by omega) with rfl | rfl | rfl | rfl <;> rfl)
                  have szu := SZ.out
                  obtain ⟨nv, w5, hr5, hE5, hg5, hl5⟩ := appSe (y0.alloc (.cells #[.int .i64 (A5 : Int), .int .i64 (A6 : Int), .int .i64 (A7 : Int), .int .i64 (A8 : Int)] 100)) (w.heap.size + 1) v1 m y0.heap.size (pSeO (strB T) (P + 1)) (⟨(A5 : Int), (A6 : Int), (A7 : Int), (A8 : Int)⟩ : Se) (by simp; omega) (by omega) (SV.out.below hb1) lc
                  obtain ⟨na, nc, rfl⟩ := hE5.form
                  refine wpAnyH_ready (rs := [29]) (by kernel_rfl) (by simp) ?_
                  refine AllReadyH.cons rfl (fun KK hK => ?_) AllReadyH.nil
                  rw [if_pos (by rfl)]
                  refine Lib.wp_append_run _ (.tmp 86) (.tmp 113) 44 44 rfl v1 (.slice (some ⟨y0.heap.size, 0, none⟩) 1 1) rfl rfl _ _ (hr5 _) ?_
                  refine hK.out _ _ H (fun _ => ?_)
                  clear hK KK
                  change wpAnyH _ _ _ _ _ _ _ { tmps := #[_,_,_,_,_,_,_,_,_,_,_,_,_,_,_,_,_,_,_,_,_,_,_,_,_,_,_,_,_,_,_,_,_,_,_,_,_,_,_,_,_,_,_,_,_,_,_,_,_,_,_,_,_,_,_,_,_,_,_,_,_,_,_,_,_,_,_,_,_,_,_,_,_,_,_,_,_,_,_,_,_,_,_,_,_,_,_,_,_,_,_,_,_,_,_,_,_,_,_,_,_,_,_,_,_,_,_,_,_,_,_,_,_,_,_,_,_,_,_,_,_,_,_,_,_,_,_,_,_,_], defers := _ } _
                  refine wpAnyH_take (i := 30) (v := .pointer (some ⟨w.heap.size + 1 + 1 + 1, 1, none⟩)) rfl (by kernel_rfl) (by kernel_rfl) (by kernel_rfl) (fun _ _ _ h => h) (Or.inl ⟨by rfl, ?_⟩) H ?_
                  · intro w' hSw; clear hSw; go_simp
                  change wpAnyH _ _ _ _ _ _ _ { tmps := #[_,_,_,_,_,_,_,_,_,_,_,_,_,_,_,_,_,_,_,_,_,_,_,_,_,_,_,_,_,_,_,_,_,_,_,_,_,_,_,_,_,_,_,_,_,_,_,_,_,_,_,_,_,_,_,_,_,_,_,_,_,_,_,_,_,_,_,_,_,_,_,_,_,_,_,_,_,_,_,_,_,_,_,_,_,_,_,_,_,_,_,_,_,_,_,_,_,_,_,_,_,_,_,_,_,_,_,_,_,_,_,_,_,_,_,_,_,_,_,_,_,_,_,_,_,_,_,_,_,_], defers := _ } _
                  have ob : ∀ g, v1.ownBlock = some g → w.heap.size + 1 ≤ g ∧ g ≠ w.heap.size + 1 + 1 + 1 := fun g e => ⟨(SV.out.ge g e).1, NB1.out g e⟩
                  have sz2 : (y0.alloc (.cells #[.int .i64 (A5 : Int), .int .i64 (A6 : Int), .int .i64 (A7 : Int), .int .i64 (A8 : Int)] 100)).heap.size = y0.heap.size + 1 := by simp
                  have k5 : ∀ q, q < y0.heap.size → (∀ g, v1.ownBlock = some g → q ≠ g) → w5.heap[q]? = y0.heap[q]? := fun q hq hn => (grown_block hg5 (by rw [sz2]; omega) hn).trans (hb1.block q hq)
                  have BV5 := BV.out.ofBlock (k5 _ (by omega) (fun g e q => (ob g e).2 q.symm))
                  have f5 := BV5.fr 1
                  have c5 := BV5.c1
                  have X6 : Hid (Box2 (w5.setCell ⟨w.heap.size + 1 + 1 + 1, 1, none⟩ (.slice na (m + 1) nc)) w.heap.size 46 (.slice none 0 0) (.slice none 0 0)) := (X0.out.ofBlock (k5 _ (by omega) (fun g e q => by have := (ob g e).1; omega))).other (by simp; omega) _
                  have BV6 : Hid (Box2 (w5.setCell ⟨w.heap.size + 1 + 1 + 1, 1, none⟩ (.slice na (m + 1) nc)) (w.heap.size + 1 + 1 + 1) 46 v0 (.slice na (m + 1) nc)) := BV5.set1 _
                  have nn : ∀ g, (Value.slice na (m + 1) nc).ownBlock = some g → (v1.ownBlock = some g ∨ g = y0.heap.size + 1) := fun g e => by
                    rcases hl5 with q | q
                    · exact .inl (q.symm.trans e)
                    · right; rw [e] at q; rw [sz2] at q; exact Option.some.inj q
                  have N6 : Hid (∀ g, (Value.slice na (m + 1) nc).ownBlock = some g → g ≠ w.heap.size + 1 + 1 + 1) := fun g e => by
                    rcases nn g e with q | q
                    · exact (ob g q).2
                    · omega
                  have E6 : Hid (EO (w5.setCell ⟨w.heap.size + 1 + 1 + 1, 1, none⟩ (.slice na (m + 1) nc)) (w.heap.size + 1) 100 4 (.slice na (m + 1) nc) (m + 1) (seF (pSeO (strB T) (P + 1)))) := (hE5.keep (fun g e => heap_setOther _ _ (N6.out g e))).congr (fun i hi j hj => by unfold seF updE; by_cases q : i = m; rw [if_pos q, XR.out, q]; rw [if_neg q])
                  have O6 : Hid (EO (w5.setCell ⟨w.heap.size + 1 + 1 + 1, 1, none⟩ (.slice na (m + 1) nc)) (w.heap.size + 1) 54 3 v0 k (rgF (pRg (strB T)))) := RV.out.keep (fun g e => (heap_setOther _ _ (NB0.out g e)).trans (k5 g (RV.out.ge g e).2 (fun g2 e2 q => AP.out g e (q ▸ e2))))
                  have A6 : Hid (∀ g, v0.ownBlock = some g → (Value.slice na (m + 1) nc).ownBlock ≠ some g) := fun g e q => by
                    rcases nn g q with z | z
                    · exact AP.out g e z
                    · have := (RV.out.ge g e).2; omega
                  have SZ6 : Hid (w.heap.size + 1 + 1 + 1 + 1 ≤ (w5.setCell ⟨w.heap.size + 1 + 1 + 1, 1, none⟩ (.slice na (m + 1) nc)).heap.size) := by
                    have := hg5.size
                    rw [sz2] at this
                    show _ ≤ _
                    simp
                    omega
                  have AB6 : Hid (Below w.heap.size w (w5.setCell ⟨w.heap.size + 1 + 1 + 1, 1, none⟩ (.slice na (m + 1) nc))) := (AB.out.trans ((hb1.mono AB.out.size).trans (grown_belowE hg5 (by rw [sz2]; omega) (fun g e => by have := (ob g e).1; omega)))).setCell (by simp; omega) _
                  clear hE5 hg5 hl5 k5 BV5 lc hb1 sz2 ob nn
                  refine wpAnyH_ready (rs := [31]) (by kernel_rfl) (by simp) ?_
                  refine AllReadyH.cons rfl (fun KK hK => ?_) AllReadyH.nil
                  go_simp
                  refine hK.out _ _ H (fun _ => ?_)
                  clear hK KK
                  refine wpAnyH_done (by kernel_rfl) ?_ _
                  refine NoPanic.normal ?_
                  clear H X0 BV RV SV NB0 NB1 AP SZ AB hr5 szu f5 c5
                  have E7 : Hid (Q + 9 = P + 1 + 9 * (m + 1)) := by have := HQ.out; show _ = _; omega
                  have E8 : Hid (J - 1 = x4 - (m + 1) ∧ m + 1 ≤ x4) := by have := HJ.out; exact ⟨by omega, by omega⟩
                  have i8 : J ≤ 255 := by have := HJ.out; omega
                  have i9 : IntKind.i64.wrap ((J : Int) - 1) = ((J - 1 : Nat) : Int) := by rw [IntWalk.i64_in _ (by omega)]; omega
                  clear NA NC ND XR es wV slNA slNC slND
                  change Exit.then _ _ Exit.normal { tmps := #[_, _, _, _, _, _, _, _, _, _, _, _, _, _, _, _, _, _, _, _, _, _, _, _, _, _, _, _, _, _, _, _, _, _, _, _, _, _, _, _, _, _, _, _, _, _, _, _, _, _, _, _, _, _, _, _, _, _, _, _, _, _, _, _, _, _, _, _, _, _, _, _, _, _, _, _, _, _, _, _, _, _, _, _, _, _, _, _, _, _, _, _, _, _, _, _, _, _, _, _, _, _, _, _, _, _, _, _, _, _, _, _, _, _, _, _, _, _, _, _, _, _, _, _, _, _, _, _, _, _], defers := _ } _
                  go_wp2
                  go_roundw
                  case rel => exact ⟨m + 1, _, E8.out.2, by have := E7.out; omega, numEq8 (by have := E7.out; omega), numEq8 (by have := E8.out.1; omega), X6.out, BV6.out, O6.out, E6.out, NB0x.out, N6.out, A6.out, SZ6.out, AB6.out⟩
                  case measure => simp [intOf]; omega
                · skip
                  go_simp
                  refine (NA.out _).mono ?_
                  rintro e _ ⟨rfl, rfl⟩
                  refine hK.out _ _ H (fun _ => ?_)
                  clear hK KK
                  change wpAnyH _ _ _ _ _ _ _ { tmps := #[_,_,_,_,_,_,_,_,_,_,_,_,_,_,_,_,_,_,_,_,_,_,_,_,_,_,_,_,_,_,_,_,_,_,_,_,_,_,_,_,_,_,_,_,_,_,_,_,_,_,_,_,_,_,_,_,_,_,_,_,_,_,_,_,_,_,_,_,_,_,_,_,_,_,_,_,_,_,_,_,_,_,_,_,_,_,_,_,_,_,_,_,_,_,_,_,_,_,_,_,_,_,_,_,_,_,_,_,_,_,_,_,_,_,_,_,_,_,_,_,_,_,_,_,_,_,_,_,_,_], defers := _ } _
                  refine wpAnyH_ready (rs := [1, 14]) (by kernel_rfl) (by simp) ?_
                  refine (AllReadyH.cons rfl (fun KK hK => ?_) (AllReadyH.cons rfl (fun KK hK => ?_) AllReadyH.nil))
                  · skip
                    have lb := BV.out.c1
                    go_simp
                    refine hK.out _ _ H (fun _ => ?_)
                    clear hK KK lb
                    change wpAnyH _ _ _ _ _ _ _ { tmps := #[_,_,_,_,_,_,_,_,_,_,_,_,_,_,_,_,_,_,_,_,_,_,_,_,_,_,_,_,_,_,_,_,_,_,_,_,_,_,_,_,_,_,_,_,_,_,_,_,_,_,_,_,_,_,_,_,_,_,_,_,_,_,_,_,_,_,_,_,_,_,_,_,_,_,_,_,_,_,_,_,_,_,_,_,_,_,_,_,_,_,_,_,_,_,_,_,_,_,_,_,_,_,_,_,_,_,_,_,_,_,_,_,_,_,_,_,_,_,_,_,_,_,_,_,_,_,_,_,_,_], defers := _ } _
                    refine wpAnyH_ready (rs := [14]) (by kernel_rfl) (by simp) ?_
                    refine (AllReadyH.cons rfl (fun KK hK => ?_) AllReadyH.nil)
                    go_simp
                    refine (NC.out _).mono ?_
                    rintro e _ ⟨rfl, rfl⟩
                    refine hK.out _ _ H (fun _ => ?_)
                    clear hK KK
                    change wpAnyH _ _ _ _ _ _ _ { tmps := #[_,_,_,_,_,_,_,_,_,_,_,_,_,_,_,_,_,_,_,_,_,_,_,_,_,_,_,_,_,_,_,_,_,_,_,_,_,_,_,_,_,_,_,_,_,_,_,_,_,_,_,_,_,_,_,_,_,_,_,_,_,_,_,_,_,_,_,_,_,_,_,_,_,_,_,_,_,_,_,_,_,_,_,_,_,_,_,_,_,_,_,_,_,_,_,_,_,_,_,_,_,_,_,_,_,_,_,_,_,_,_,_,_,_,_,_,_,_,_,_,_,_,_,_,_,_,_,_,_,_], defers := _ } _
                    refine wpAnyH_ready (rs := [26]) (by kernel_rfl) (by simp) ?_
                    refine (AllReadyH.cons rfl (fun KK hK => ?_) AllReadyH.nil)
                    go_simp
                    refine (ND.out _).mono ?_
                    rintro e _ ⟨rfl, rfl⟩
                    refine hK.out _ _ H (fun _ => ?_)
                    clear hK KK
                    change wpAnyH _ _ _ _ _ _ _ { tmps := #[_,_,_,_,_,_,_,_,_,_,_,_,_,_,_,_,_,_,_,_,_,_,_,_,_,_,_,_,_,_,_,_,_,_,_,_,_,_,_,_,_,_,_,_,_,_,_,_,_,_,_,_,_,_,_,_,_,_,_,_,_,_,_,_,_,_,_,_,_,_,_,_,_,_,_,_,_,_,_,_,_,_,_,_,_,_,_,_,_,_,_,_,_,_,_,_,_,_,_,_,_,_,_,_,_,_,_,_,_,_,_,_,_,_,_,_,_,_,_,_,_,_,_,_,_,_,_,_,_,_], defers := _ } _
                    refine wpAnyH_take (i := 27) (v := .agg #[.int .i64 (A5 : Int), .int .i64 (A6 : Int), .int .i64 (A7 : Int), .int .i64 (A8 : Int)]) rfl (by kernel_rfl) (by kernel_rfl) (by kernel_rfl) (fun _ _ _ h => h) (Or.inl ⟨by rfl, ?_⟩) H ?_
                    · intro w' hSw; clear hSw; go_simp
                    change wpAnyH _ _ _ _ _ _ _ { tmps := #[_,_,_,_,_,_,_,_,_,_,_,_,_,_,_,_,_,_,_,_,_,_,_,_,_,_,_,_,_,_,_,_,_,_,_,_,_,_,_,_,_,_,_,_,_,_,_,_,_,_,_,_,_,_,_,_,_,_,_,_,_,_,_,_,_,_,_,_,_,_,_,_,_,_,_,_,_,_,_,_,_,_,_,_,_,_,_,_,_,_,_,_,_,_,_,_,_,_,_,_,_,_,_,_,_,_,_,_,_,_,_,_,_,_,_,_,_,_,_,_,_,_,_,_,_,_,_,_,_,_], defers := _ } _
                    refine wpAnyH_ready (rs := [28]) (by kernel_rfl) (by simp) ?_
                    refine (AllReadyH.cons rfl (fun KK hK => ?_) AllReadyH.nil)
                    go_simp
                    refine hK.out _ _ H (fun _ => ?_)
                    clear hK KK
                    change wpAnyH _ _ _ _ _ _ _ { tmps := #[_,_,_,_,_,_,_,_,_,_,_,_,_,_,_,_,_,_,_,_,_,_,_,_,_,_,_,_,_,_,_,_,_,_,_,_,_,_,_,_,_,_,_,_,_,_,_,_,_,_,_,_,_,_,_,_,_,_,_,_,_,_,_,_,_,_,_,_,_,_,_,_,_,_,_,_,_,_,_,_,_,_,_,_,_,_,_,_,_,_,_,_,_,_,_,_,_,_,_,_,_,_,_,_,_,_,_,_,_,_,_,_,_,_,_,_,_,_,_,_,_,_,_,_,_,_,_,_,_,_], defers := _ } _
                    have hb1 : Below y0.heap.size y0 (y0.alloc (.cells #[.int .i64 (A5 : Int), .int .i64 (A6 : Int), .int .i64 (A7 : Int), .int .i64 (A8 : Int)] 100)) := (Below.refl _ _).alloc (Nat.le_refl _) _
                    have lc : ∀ j, j < 4 → (y0.alloc (.cells #[.int .i64 (A5 : Int), .int .i64 (A6 : Int), .int .i64 (A7 : Int), .int .i64 (A8 : Int)] 100)).cell? ⟨y0.heap.size, 0 + j, none⟩ = some (seV (⟨(A5 : Int), (A6 : Int), (A7 : Int), (A8 : Int)⟩ : Se) j) := litCells (w := y0) (t := 100) (cs := #[.int .i64 (A5 : Int), .int .i64 (A6 : Int), .int .i64 (A7 : Int), .int .i64 (A8 : Int)]) (m := 4) (seV (⟨(A5 : Int), (A6 : Int), (A7 : Int), (A8 : Int)⟩ : Se)) rfl (fun i hi => by rcases (show i = 0 ∨ i = 1 ∨ i = 2 ∨ i = 3 by omega) with rfl | rfl | rfl | rfl <;> rfl)
                    have szu := SZ.out
                    obtain ⟨nv, w5, hr5, hE5, hg5, hl5⟩ := appSe (y0.alloc (.cells #[.int .i64 (A5 : Int), .int .i64 (A6 : Int), .int .i64 (A7 : Int), .int .i64 (A8 : Int)] 100)) (w.heap.size + 1) v1 m y0.heap.size (pSeO (strB T) (P + 1)) (⟨(A5 : Int), (A6 : Int), (A7 : Int), (A8 : Int)⟩ : Se) (by simp; omega) (by omega) (SV.out.below hb1) lc
                    obtain ⟨na, nc, rfl⟩ := hE5.form
                    refine wpAnyH_ready (rs := [29]) (by kernel_rfl) (by simp) ?_
                    refine AllReadyH.cons rfl (fun KK hK => ?_) AllReadyH.nil
                    rw [if_pos (by rfl)]
                    refine Lib.wp_append_run _ (.tmp 86) (.tmp 113) 44 44 rfl v1 (.slice (some ⟨y0.heap.size, 0, none⟩) 1 1) rfl rfl _ _ (hr5 _) ?_
                    refine hK.out _ _ H (fun _ => ?_)
                    clear hK KK
                    change wpAnyH _ _ _ _ _ _ _ { tmps := #[_,_,_,_,_,_,_,_,_,_,_,_,_,_,_,_,_,_,_,_,_,_,_,_,_,_,_,_,_,_,_,_,_,_,_,_,_,_,_,_,_,_,_,_,_,_,_,_,_,_,_,_,_,_,_,_,_,_,_,_,_,_,_,_,_,_,_,_,_,_,_,_,_,_,_,_,_,_,_,_,_,_,_,_,_,_,_,_,_,_,_,_,_,_,_,_,_,_,_,_,_,_,_,_,_,_,_,_,_,_,_,_,_,_,_,_,_,_,_,_,_,_,_,_,_,_,_,_,_,_], defers := _ } _
                    refine wpAnyH_take (i := 30) (v := .pointer (some ⟨w.heap.size + 1 + 1 + 1, 1, none⟩)) rfl (by kernel_rfl) (by kernel_rfl) (by kernel_rfl) (fun _ _ _ h => h) (Or.inl ⟨by rfl, ?_⟩) H ?_
                    · intro w' hSw; clear hSw; go_simp
                    change wpAnyH _ _ _ _ _ _ _ { tmps := #[_,_,_,_,_,_,_,_,_,_,_,_,_,_,_,_,_,_,_,_,_,_,_,_,_,_,_,_,_,_,_,_,_,_,_,_,_,_,_,_,_,_,_,_,_,_,_,_,_,_,_,_,_,_,_,_,_,_,_,_,_,_,_,_,_,_,_,_,_,_,_,_,_,_,_,_,_,_,_,_,_,_,_,_,_,_,_,_,_,_,_,_,_,_,_,_,_,_,_,_,_,_,_,_,_,_,_,_,_,_,_,_,_,_,_,_,_,_,_,_,_,_,_,_,_,_,_,_,_,_], defers := _ } _
                    have ob : ∀ g, v1.ownBlock = some g → w.heap.size + 1 ≤ g ∧ g ≠ w.heap.size + 1 + 1 + 1 := fun g e => ⟨(SV.out.ge g e).1, NB1.out g e⟩
                    have sz2 : (y0.alloc (.cells #[.int .i64 (A5 : Int), .int .i64 (A6 : Int), .int .i64 (A7 : Int), .int .i64 (A8 : Int)] 100)).heap.size = y0.heap.size + 1 := by simp
                    have k5 : ∀ q, q < y0.heap.size → (∀ g, v1.ownBlock = some g → q ≠ g) → w5.heap[q]? = y0.heap[q]? := fun q hq hn => (grown_block hg5 (by rw [sz2]; omega) hn).trans (hb1.block q hq)
                    have BV5 := BV.out.ofBlock (k5 _ (by omega) (fun g e q => (ob g e).2 q.symm))
                    have f5 := BV5.fr 1
                    have c5 := BV5.c1
                    have X6 : Hid (Box2 (w5.setCell ⟨w.heap.size + 1 + 1 + 1, 1, none⟩ (.slice na (m + 1) nc)) w.heap.size 46 (.slice none 0 0) (.slice none 0 0)) := (X0.out.ofBlock (k5 _ (by omega) (fun g e q => by have := (ob g e).1; omega))).other (by simp; omega) _
                    have BV6 : Hid (Box2 (w5.setCell ⟨w.heap.size + 1 + 1 + 1, 1, none⟩ (.slice na (m + 1) nc)) (w.heap.size + 1 + 1 + 1) 46 v0 (.slice na (m + 1) nc)) := BV5.set1 _
                    have nn : ∀ g, (Value.slice na (m + 1) nc).ownBlock = some g → (v1.ownBlock = some g ∨ g = y0.heap.size + 1) := fun g e => by
                      rcases hl5 with q | q
                      · exact .inl (q.symm.trans e)
                      · right; rw [e] at q; rw [sz2] at q; exact Option.some.inj q
                    have N6 : Hid (∀ g, (Value.slice na (m + 1) nc).ownBlock = some g → g ≠ w.heap.size + 1 + 1 + 1) := fun g e => by
                      rcases nn g e with q | q
                      · exact (ob g q).2
                      · omega
                    have E6 : Hid (EO (w5.setCell ⟨w.heap.size + 1 + 1 + 1, 1, none⟩ (.slice na (m + 1) nc)) (w.heap.size + 1) 100 4 (.slice na (m + 1) nc) (m + 1) (seF (pSeO (strB T) (P + 1)))) := (hE5.keep (fun g e => heap_setOther _ _ (N6.out g e))).congr (fun i hi j hj => by unfold seF updE; by_cases q : i = m; rw [if_pos q, XR.out, q]; rw [if_neg q])
                    have O6 : Hid (EO (w5.setCell ⟨w.heap.size + 1 + 1 + 1, 1, none⟩ (.slice na (m + 1) nc)) (w.heap.size + 1) 54 3 v0 k (rgF (pRg (strB T)))) := RV.out.keep (fun g e => (heap_setOther _ _ (NB0.out g e)).trans (k5 g (RV.out.ge g e).2 (fun g2 e2 q => AP.out g e (q ▸ e2))))
                    have A6 : Hid (∀ g, v0.ownBlock = some g → (Value.slice na (m + 1) nc).ownBlock ≠ some g) := fun g e q => by
                      rcases nn g q with z | z
                      · exact AP.out g e z
                      · have := (RV.out.ge g e).2; omega
                    have SZ6 : Hid (w.heap.size + 1 + 1 + 1 + 1 ≤ (w5.setCell ⟨w.heap.size + 1 + 1 + 1, 1, none⟩ (.slice na (m + 1) nc)).heap.size) := by
                      have := hg5.size
                      rw [sz2] at this
                      show _ ≤ _
                      simp
                      omega
                    have AB6 : Hid (Below w.heap.size w (w5.setCell ⟨w.heap.size + 1 + 1 + 1, 1, none⟩ (.slice na (m + 1) nc))) := (AB.out.trans ((hb1.mono AB.out.size).trans (grown_belowE hg5 (by rw [sz2]; omega) (fun g e => by have := (ob g e).1; omega)))).setCell (by simp; omega) _
                    clear hE5 hg5 hl5 k5 BV5 lc hb1 sz2 ob nn
                    refine wpAnyH_ready (rs := [31]) (by kernel_rfl) (by simp) ?_
                    refine AllReadyH.cons rfl (fun KK hK => ?_) AllReadyH.nil
                    go_simp
                    refine hK.out _ _ H (fun _ => ?_)
                    clear hK KK
                    refine wpAnyH_done (by kernel_rfl) ?_ _
                    refine NoPanic.normal ?_
                    clear H X0 BV RV SV NB0 NB1 AP SZ AB hr5 szu f5 c5
                    have E7 : Hid (Q + 9 = P + 1 + 9 * (m + 1)) := by have := HQ.out; show _ = _; omega
                    have E8 : Hid (J - 1 = x4 - (m + 1) ∧ m + 1 ≤ x4) := by have := HJ.out; exact ⟨by omega, by omega⟩
                    have i8 : J ≤ 255 := by have := HJ.out; omega
                    have i9 : IntKind.i64.wrap ((J : Int) - 1) = ((J - 1 : Nat) : Int) := by rw [IntWalk.i64_in _ (by omega)]; omega
                    clear NA NC ND XR es wV slNA slNC slND
                    change Exit.then _ _ Exit.normal { tmps := #[_, _, _, _, _, _, _, _, _, _, _, _, _, _, _, _, _, _, _, _, _, _, _, _, _, _, _, _, _, _, _, _, _, _, _, _, _, _, _, _, _, _, _, _, _, _, _, _, _, _, _, _, _, _, _, _, _, _, _, _, _, _, _, _, _, _, _, _, _, _, _, _, _, _, _, _, _, _, _, _, _, _, _, _, _, _, _, _, _, _, _, _, _, _, _, _, _, _, _, _, _, _, _, _, _, _, _, _, _, _, _, _, _, _, _, _, _, _, _, _, _, _, _, _, _, _, _, _, _, _], defers := _ } _
                    go_wp2
                    go_roundw
                    case rel => exact ⟨m + 1, _, E8.out.2, by have := E7.out; omega, numEq8 (by have := E7.out; omega), numEq8 (by have := E8.out.1; omega), X6.out, BV6.out, O6.out, E6.out, NB0x.out, N6.out, A6.out, SZ6.out, AB6.out⟩
                    case measure => simp [intOf]; omega
                  · skip
                    go_simp
                    refine (NC.out _).mono ?_
                    rintro e _ ⟨rfl, rfl⟩
                    refine hK.out _ _ H (fun _ => ?_)
                    clear hK KK
                    change wpAnyH _ _ _ _ _ _ _ { tmps := #[_,_,_,_,_,_,_,_,_,_,_,_,_,_,_,_,_,_,_,_,_,_,_,_,_,_,_,_,_,_,_,_,_,_,_,_,_,_,_,_,_,_,_,_,_,_,_,_,_,_,_,_,_,_,_,_,_,_,_,_,_,_,_,_,_,_,_,_,_,_,_,_,_,_,_,_,_,_,_,_,_,_,_,_,_,_,_,_,_,_,_,_,_,_,_,_,_,_,_,_,_,_,_,_,_,_,_,_,_,_,_,_,_,_,_,_,_,_,_,_,_,_,_,_,_,_,_,_,_,_], defers := _ } _
                    refine wpAnyH_ready (rs := [1, 26]) (by kernel_rfl) (by simp) ?_
                    refine (AllReadyH.cons rfl (fun KK hK => ?_) (AllReadyH.cons rfl (fun KK hK => ?_) AllReadyH.nil))
                    · skip
                      have lb := BV.out.c1
                      go_simp
                      refine hK.out _ _ H (fun _ => ?_)
                      clear hK KK lb
                      change wpAnyH _ _ _ _ _ _ _ { tmps := #[_,_,_,_,_,_,_,_,_,_,_,_,_,_,_,_,_,_,_,_,_,_,_,_,_,_,_,_,_,_,_,_,_,_,_,_,_,_,_,_,_,_,_,_,_,_,_,_,_,_,_,_,_,_,_,_,_,_,_,_,_,_,_,_,_,_,_,_,_,_,_,_,_,_,_,_,_,_,_,_,_,_,_,_,_,_,_,_,_,_,_,_,_,_,_,_,_,_,_,_,_,_,_,_,_,_,_,_,_,_,_,_,_,_,_,_,_,_,_,_,_,_,_,_,_,_,_,_,_,_], defers := _ } _
                      refine wpAnyH_ready (rs := [26]) (by kernel_rfl) (by simp) ?_
                      refine (AllReadyH.cons rfl (fun KK hK => ?_) AllReadyH.nil)
                      go_simp
                      refine (ND.out _).mono ?_
                      rintro e _ ⟨rfl, rfl⟩
                      refine hK.out _ _ H (fun _ => ?_)
                      clear hK KK
                      change wpAnyH _ _ _ _ _ _ _ { tmps := #[_,_,_,_,_,_,_,_,_,_,_,_,_,_,_,_,_,_,_,_,_,_,_,_,_,_,_,_,_,_,_,_,_,_,_,_,_,_,_,_,_,_,_,_,_,_,_,_,_,_,_,_,_,_,_,_,_,_,_,_,_,_,_,_,_,_,_,_,_,_,_,_,_,_,_,_,_,_,_,_,_,_,_,_,_,_,_,_,_,_,_,_,_,_,_,_,_,_,_,_,_,_,_,_,_,_,_,_,_,_,_,_,_,_,_,_,_,_,_,_,_,_,_,_,_,_,_,_,_,_], defers := _ } _
                      refine wpAnyH_take (i := 27) (v := .agg #[.int .i64 (A5 : Int), .int .i64 (A6 : Int), .int .i64 (A7 : Int), .int .i64 (A8 : Int)]) rfl (by kernel_rfl) (by kernel_rfl) (by kernel_rfl) (fun _ _ _ h => h) (Or.inl ⟨by rfl, ?_⟩) H ?_
                      · intro w' hSw; clear hSw; go_simp
                      change wpAnyH _ _ _ _ _ _ _ { tmps := #[_,_,_,_,_,_,_,_,_,_,_,_,_,_,_,_,_,_,_,_,_,_,_,_,_,_,_,_,_,_,_,_,_,_,_,_,_,_,_,_,_,_,_,_,_,_,_,_,_,_,_,_,_,_,_,_,_,_,_,_,_,_,_,_,_,_,_,_,_,_,_,_,_,_,_,_,_,_,_,_,_,_,_,_,_,_,_,_,_,_,_,_,_,_,_,_,_,_,_,_,_,_,_,_,_,_,_,_,_,_,_,_,_,_,_,_,_,_,_,_,_,_,_,_,_,_,_,_,_,_], defers := _ } _
                      refine wpAnyH_ready (rs := [28]) (by kernel_rfl) (by simp) ?_
                      refine (AllReadyH.cons rfl (fun KK hK => ?_) AllReadyH.nil)
                      go_simp
                      refine hK.out _ _ H (fun _ => ?_)
                      clear hK KK
                      change wpAnyH _ _ _ _ _ _ _ { tmps := #[_,_,_,_,_,_,_,_,_,_,_,_,_,_,_,_,_,_,_,_,_,_,_,_,_,_,_,_,_,_,_,_,_,_,_,_,_,_,_,_,_,_,_,_,_,_,_,_,_,_,_,_,_,_,_,_,_,_,_,_,_,_,_,_,_,_,_,_,_,_,_,_,_,_,_,_,_,_,_,_,_,_,_,_,_,_,_,_,_,_,_,_,_,_,_,_,_,_,_,_,_,_,_,_,_,_,_,_,_,_,_,_,_,_,_,_,_,_,_,_,_,_,_,_,_,_,_,_,_,_], defers := _ } _
                      have hb1 : Below y0.heap.size y0 (y0.alloc (.cells #[.int .i64 (A5 : Int), .int .i64 (A6 : Int), .int .i64 (A7 : Int), .int .i64 (A8 : Int)] 100)) := (Below.refl _ _).alloc (Nat.le_refl _) _
                      have lc : ∀ j, j < 4 → (y0.alloc (.cells #[.int .i64 (A5 : Int), .int .i64 (A6 : Int), .int .i64 (A7 : Int), .int .i64 (A8 : Int)] 100)).cell? ⟨y0.heap.size, 0 + j, none⟩ = some (seV (⟨(A5 : Int), (A6 : Int), (A7 : Int), (A8 : Int)⟩ : Se) j) := litCells (w := y0) (t := 100) (cs := #[.int .i64 (A5 : Int), .int .i64 (A6 : Int), .int .i64 (A7 : Int), .int .i64 (A8 : Int)]) (m := 4) (seV (⟨(A5 : Int), (A6 : Int), (A7 : Int), (A8 : Int)⟩ : Se)) rfl (fun i hi => by rcases (show i = 0 ∨ i = 1 ∨ i = 2 ∨ i = 3 by omega) with rfl | rfl | rfl | rfl <;> rfl)
                      have szu := SZ.out
                      obtain ⟨nv, w5, hr5, hE5, hg5, hl5⟩ := appSe (y0.alloc (.cells #[.int .i64 (A5 : Int), .int .i64 (A6 : Int), .int .i64 (A7 : Int), .int .i64 (A8 : Int)] 100)) (w.heap.size + 1) v1 m y0.heap.size (pSeO (strB T) (P + 1)) (⟨(A5 : Int), (A6 : Int), (A7 : Int), (A8 : Int)⟩ : Se) (by simp; omega) (by omega) (SV.out.below hb1) lc
                      obtain ⟨na, nc, rfl⟩ := hE5.form
                      refine wpAnyH_ready (rs := [29]) (by kernel_rfl) (by simp) ?_
                      refine AllReadyH.cons rfl (fun KK hK => ?_) AllReadyH.nil
                      rw [if_pos (by rfl)]
                      refine Lib.wp_append_run _ (.tmp 86) (.tmp 113) 44 44 rfl v1 (.slice (some ⟨y0.heap.size, 0, none⟩) 1 1) rfl rfl _ _ (hr5 _) ?_
                      refine hK.out _ _ H (fun _ => ?_)
                      clear hK KK
                      change wpAnyH _ _ _ _ _ _ _ { tmps := #[_,_,_,_,_,_,_,_,_,_,_,_,_,_,_,_,_,_,_,_,_,_,_,_,_,_,_,_,_,_,_,_,_,_,_,_,_,_,_,_,_,_,_,_,_,_,_,_,_,_,_,_,_,_,_,_,_,_,_,_,_,_,_,_,_,_,_,_,_,_,_,_,_,_,_,_,_,_,_,_,_,_,_,_,_,_,_,_,_,_,_,_,_,_,_,_,_,_,_,_,_,_,_,_,_,_,_,_,_,_,_,_,_,_,_,_,_,_,_,_,_,_,_,_,_,_,_,_,_,_], defers := _ } _
                      refine wpAnyH_take (i := 30) (v := .pointer (some ⟨w.heap.size + 1 + 1 + 1, 1, none⟩)) rfl (by kernel_rfl) (by kernel_rfl) (by kernel_rfl) (fun _ _ _ h => h) (Or.inl ⟨by rfl, ?_⟩) H ?_
                      · intro w' hSw; clear hSw; go_simp
                      change wpAnyH _ _ _ _ _ _ _ { tmps := #[_,_,_,_,_,_,_,_,_,_,_,_,_,_,_,_,_,_,_,_,_,_,_,_,_,_,_,_,_,_,_,_,_,_,_,_,_,_,_,_,_,_,_,_,_,_,_,_,_,_,_,_,_,_,_,_,_,_,_,_,_,_,_,_,_,_,_,_,_,_,_,_,_,_,_,_,_,_,_,_,_,_,_,_,_,_,_,_,_,_,_,_,_,_,_,_,_,_,_,_,_,_,_,_,_,_,_,_,_,_,_,_,_,_,_,_,_,_,_,_,_,_,_,_,_,_,_,_,_,_], defers := _ } _
                      have ob : ∀ g, v1.ownBlock = some g → w.heap.size + 1 ≤ g ∧ g ≠ w.heap.size + 1 + 1 + 1 := fun g e => ⟨(SV.out.ge g e).1, NB1.out g e⟩
                      have sz2 : (y0.alloc (.cells #[.int .i64 (A5 : Int), .int .i64 (A6 : Int), .int .i64 (A7 : Int), .int .i64 (A8 : Int)] 100)).heap.size = y0.heap.size + 1 := by simp
                      have k5 : ∀ q, q < y0.heap.size → (∀ g, v1.ownBlock = some g → q ≠ g) → w5.heap[q]? = y0.heap[q]? := fun q hq hn => (grown_block hg5 (by rw [sz2]; omega) hn).trans (hb1.block q hq)
                      have BV5 := BV.out.ofBlock (k5 _ (by omega) (fun g e q => (ob g e).2 q.symm))
                      have f5 := BV5.fr 1
                      have c5 := BV5.c1
                      have X6 : Hid (Box2 (w5.setCell ⟨w.heap.size + 1 + 1 + 1, 1, none⟩ (.slice na (m + 1) nc)) w.heap.size 46 (.slice none 0 0) (.slice none 0 0)) := (X0.out.ofBlock (k5 _ (by omega) (fun g e q => by have := (ob g e).1; omega))).other (by simp; omega) _
                      have BV6 : Hid (Box2 (w5.setCell ⟨w.heap.size + 1 + 1 + 1, 1, none⟩ (.slice na (m + 1) nc)) (w.heap.size + 1 + 1 + 1) 46 v0 (.slice na (m + 1) nc)) := BV5.set1 _
                      have nn : ∀ g, (Value.slice na (m + 1) nc).ownBlock = some g → (v1.ownBlock = some g ∨ g = y0.heap.size + 1) := fun g e => by
                        rcases hl5 with q | q
                        · exact .inl (q.symm.trans e)
                        · right; rw [e] at q; rw [sz2] at q; exact Option.some.inj q
                      have N6 : Hid (∀ g, (Value.slice na (m + 1) nc).ownBlock = some g → g ≠ w.heap.size + 1 + 1 + 1) := fun g e => by
                        rcases nn g e with q | q
                        · exact (ob g q).2
                        · omega
                      have E6 : Hid (EO (w5.setCell ⟨w.heap.size + 1 + 1 + 1, 1, none⟩ (.slice na (m + 1) nc)) (w.heap.size + 1) 100 4 (.slice na (m + 1) nc) (m + 1) (seF (pSeO (strB T) (P + 1)))) := (hE5.keep (fun g e => heap_setOther _ _ (N6.out g e))).congr (fun i hi j hj => by unfold seF updE; by_cases q : i = m; rw [if_pos q, XR.out, q]; rw [if_neg q])
                      have O6 : Hid (EO (w5.setCell ⟨w.heap.size + 1 + 1 + 1, 1, none⟩ (.slice na (m + 1) nc)) (w.heap.size + 1) 54 3 v0 k (rgF (pRg (strB T)))) := RV.out.keep (fun g e => (heap_setOther _ _ (NB0.out g e)).trans (k5 g (RV.out.ge g e).2 (fun g2 e2 q => AP.out g e (q ▸ e2))))
                      have A6 : Hid (∀ g, v0.ownBlock = some g → (Value.slice na (m + 1) nc).ownBlock ≠ some g) := fun g e q => by
                        rcases nn g q with z | z
                        · exact AP.out g e z
                        · have := (RV.out.ge g e).2; omega
                      have SZ6 : Hid (w.heap.size + 1 + 1 + 1 + 1 ≤ (w5.setCell ⟨w.heap.size + 1 + 1 + 1, 1, none⟩ (.slice na (m + 1) nc)).heap.size) := by
                        have := hg5.size
                        rw [sz2] at this
                        show _ ≤ _
                        simp
                        omega
                      have AB6 : Hid (Below w.heap.size w (w5.setCell ⟨w.heap.size + 1 + 1 + 1, 1, none⟩ (.slice na (m + 1) nc))) := (AB.out.trans ((hb1.mono AB.out.size).trans (grown_belowE hg5 (by rw [sz2]; omega) (fun g e => by have := (ob g e).1; omega)))).setCell (by simp; omega) _
                      clear hE5 hg5 hl5 k5 BV5 lc hb1 sz2 ob nn
                      refine wpAnyH_ready (rs := [31]) (by kernel_rfl) (by simp) ?_
                      refine AllReadyH.cons rfl (fun KK hK => ?_) AllReadyH.nil
                      go_simp
                      refine hK.out _ _ H (fun _ => ?_)
                      clear hK KK
                      refine wpAnyH_done (by kernel_rfl) ?_ _
                      refine NoPanic.normal ?_
                      clear H X0 BV RV SV NB0 NB1 AP SZ AB hr5 szu f5 c5
                      have E7 : Hid (Q + 9 = P + 1 + 9 * (m + 1)) := by have := HQ.out; show _ = _; omega
                      have E8 : Hid (J - 1 = x4 - (m + 1) ∧ m + 1 ≤ x4) := by have := HJ.out; exact ⟨by omega, by omega⟩
                      have i8 : J ≤ 255 := by have := HJ.out; omega
                      have i9 : IntKind.i64.wrap ((J : Int) - 1) = ((J - 1 : Nat) : Int) := by rw [IntWalk.i64_in _ (by omega)]; omega
                      clear NA NC ND XR es wV slNA slNC slND
                      change Exit.then _ _ Exit.normal { tmps := #[_, _, _, _, _, _, _, _, _, _, _, _, _, _, _, _, _, _, _, _, _, _, _, _, _, _, _, _, _, _, _, _, _, _, _, _, _, _, _, _, _, _, _, _, _, _, _, _, _, _, _, _, _, _, _, _, _, _, _, _, _, _, _, _, _, _, _, _, _, _, _, _, _, _, _, _, _, _, _, _, _, _, _, _, _, _, _, _, _, _, _, _, _, _, _, _, _, _, _, _, _, _, _, _, _, _, _, _, _, _, _, _, _, _, _, _, _, _, _, _, _, _, _, _, _, _, _, _, _, _], defers := _ } _
                      go_wp2
                      go_roundw
                      case rel => exact ⟨m + 1, _, E8.out.2, by have := E7.out; omega, numEq8 (by have := E7.out; omega), numEq8 (by have := E8.out.1; omega), X6.out, BV6.out, O6.out, E6.out, NB0x.out, N6.out, A6.out, SZ6.out, AB6.out⟩
                      case measure => simp [intOf]; omega
                    · skip
                      go_simp
                      refine (ND.out _).mono ?_
                      rintro e _ ⟨rfl, rfl⟩
                      refine hK.out _ _ H (fun _ => ?_)
                      clear hK KK
                      change wpAnyH _ _ _ _ _ _ _ { tmps := #[_,_,_,_,_,_,_,_,_,_,_,_,_,_,_,_,_,_,_,_,_,_,_,_,_,_,_,_,_,_,_,_,_,_,_,_,_,_,_,_,_,_,_,_,_,_,_,_,_,_,_,_,_,_,_,_,_,_,_,_,_,_,_,_,_,_,_,_,_,_,_,_,_,_,_,_,_,_,_,_,_,_,_,_,_,_,_,_,_,_,_,_,_,_,_,_,_,_,_,_,_,_,_,_,_,_,_,_,_,_,_,_,_,_,_,_,_,_,_,_,_,_,_,_,_,_,_,_,_,_], defers := _ } _
                      refine wpAnyH_take (i := 27) (v := .agg #[.int .i64 (A5 : Int), .int .i64 (A6 : Int), .int .i64 (A7 : Int), .int .i64 (A8 : Int)]) rfl (by kernel_rfl) (by kernel_rfl) (by kernel_rfl) (fun _ _ _ h => h) (Or.inl ⟨by rfl, ?_⟩) H ?_
                      · intro w' hSw; clear hSw; go_simp
                      change wpAnyH _ _ _ _ _ _ _ { tmps := #[_,_,_,_,_,_,_,_,_,_,_,_,_,_,_,_,_,_,_,_,_,_,_,_,_,_,_,_,_,_,_,_,_,_,_,_,_,_,_,_,_,_,_,_,_,_,_,_,_,_,_,_,_,_,_,_,_,_,_,_,_,_,_,_,_,_,_,_,_,_,_,_,_,_,_,_,_,_,_,_,_,_,_,_,_,_,_,_,_,_,_,_,_,_,_,_,_,_,_,_,_,_,_,_,_,_,_,_,_,_,_,_,_,_,_,_,_,_,_,_,_,_,_,_,_,_,_,_,_,_], defers := _ } _
                      refine wpAnyH_ready (rs := [1, 28]) (by kernel_rfl) (by simp) ?_
                      refine (AllReadyH.cons rfl (fun KK hK => ?_) (AllReadyH.cons rfl (fun KK hK => ?_) AllReadyH.nil))
                      · skip
                        have lb := BV.out.c1
                        go_simp
                        refine hK.out _ _ H (fun _ => ?_)
                        clear hK KK lb
                        change wpAnyH _ _ _ _ _ _ _ { tmps := #[_,_,_,_,_,_,_,_,_,_,_,_,_,_,_,_,_,_,_,_,_,_,_,_,_,_,_,_,_,_,_,_,_,_,_,_,_,_,_,_,_,_,_,_,_,_,_,_,_,_,_,_,_,_,_,_,_,_,_,_,_,_,_,_,_,_,_,_,_,_,_,_,_,_,_,_,_,_,_,_,_,_,_,_,_,_,_,_,_,_,_,_,_,_,_,_,_,_,_,_,_,_,_,_,_,_,_,_,_,_,_,_,_,_,_,_,_,_,_,_,_,_,_,_,_,_,_,_,_,_], defers := _ } _
                        refine wpAnyH_ready (rs := [28]) (by kernel_rfl) (by simp) ?_
                        refine (AllReadyH.cons rfl (fun KK hK => ?_) AllReadyH.nil)
                        go_simp
                        refine hK.out _ _ H (fun _ => ?_)
                        clear hK KK
                        change wpAnyH _ _ _ _ _ _ _ { tmps := #[_,_,_,_,_,_,_,_,_,_,_,_,_,_,_,_,_,_,_,_,_,_,_,_,_,_,_,_,_,_,_,_,_,_,_,_,_,_,_,_,_,_,_,_,_,_,_,_,_,_,_,_,_,_,_,_,_,_,_,_,_,_,_,_,_,_,_,_,_,_,_,_,_,_,_,_,_,_,_,_,_,_,_,_,_,_,_,_,_,_,_,_,_,_,_,_,_,_,_,_,_,_,_,_,_,_,_,_,_,_,_,_,_,_,_,_,_,_,_,_,_,_,_,_,_,_,_,_,_,_], defers := _ } _
                        have hb1 : Below y0.heap.size y0 (y0.alloc (.cells #[.int .i64 (A5 : Int), .int .i64 (A6 : Int), .int .i64 (A7 : Int), .int .i64 (A8 : Int)] 100)) := (Below.refl _ _).alloc (Nat.le_refl _) _
                        have lc : ∀ j, j < 4 → (y0.alloc (.cells #[.int .i64 (A5 : Int), .int .i64 (A6 : Int), .int .i64 (A7 : Int), .int .i64 (A8 : Int)] 100)).cell? ⟨y0.heap.size, 0 + j, none⟩ = some (seV (⟨(A5 : Int), (A6 : Int), (A7 : Int), (A8 : Int)⟩ : Se) j) := litCells (w := y0) (t := 100) (cs := #[.int .i64 (A5 : Int), .int .i64 (A6 : Int), .int .i64 (A7 : Int), .int .i64 (A8 : Int)]) (m := 4) (seV (⟨(A5 : Int), (A6 : Int), (A7 : Int), (A8 : Int)⟩ : Se)) rfl (fun i hi => by rcases (show i = 0 ∨ i = 1 ∨ i = 2 ∨ i = 3 by omega) with rfl | rfl | rfl | rfl <;> rfl)
                        have szu := SZ.out
                        obtain ⟨nv, w5, hr5, hE5, hg5, hl5⟩ := appSe (y0.alloc (.cells #[.int .i64 (A5 : Int), .int .i64 (A6 : Int), .int .i64 (A7 : Int), .int .i64 (A8 : Int)] 100)) (w.heap.size + 1) v1 m y0.heap.size (pSeO (strB T) (P + 1)) (⟨(A5 : Int), (A6 : Int), (A7 : Int), (A8 : Int)⟩ : Se) (by simp; omega) (by omega) (SV.out.below hb1) lc
                        obtain ⟨na, nc, rfl⟩ := hE5.form
                        refine wpAnyH_ready (rs := [29]) (by kernel_rfl) (by simp) ?_
                        refine AllReadyH.cons rfl (fun KK hK => ?_) AllReadyH.nil
                        rw [if_pos (by rfl)]
                        refine Lib.wp_append_run _ (.tmp 86) (.tmp 113) 44 44 rfl v1 (.slice (some ⟨y0.heap.size, 0, none⟩) 1 1) rfl rfl _ _ (hr5 _) ?_
                        refine hK.out _ _ H (fun _ => ?_)
                        clear hK KK
                        change wpAnyH _ _ _ _ _ _ _ { tmps := #[_,_,_,_,_,_,_,_,_,_,_,_,_,_,_,_,_,_,_,_,_,_,_,_,_,_,_,_,_,_,_,_,_,_,_,_,_,_,_,_,_,_,_,_,_,_,_,_,_,_,_,_,_,_,_,_,_,_,_,_,_,_,_,_,_,_,_,_,_,_,_,_,_,_,_,_,_,_,_,_,_,_,_,_,_,_,_,_,_,_,_,_,_,_,_,_,_,_,_,_,_,_,_,_,_,_,_,_,_,_,_,_,_,_,_,_,_,_,_,_,_,_,_,_,_,_,_,_,_,_], defers := _ } _
                        refine wpAnyH_take (i := 30) (v := .pointer (some ⟨w.heap.size + 1 + 1 + 1, 1, none⟩)) rfl (by kernel_rfl) (by kernel_rfl) (by kernel_rfl) (fun _ _ _ h => h) (Or.inl ⟨by rfl, ?_⟩) H ?_
                        · intro w' hSw; clear hSw; go_simp
                        change wpAnyH _ _ _ _ _ _ _ { tmps := #[_,_,_,_,_,_,_,_,_,_,_,_,_,_,_,_,_,_,_,_,_,_,_,_,_,_,_,_,_,_,_,_,_,_,_,_,_,_,_,_,_,_,_,_,_,_,_,_,_,_,_,_,_,_,_,_,_,_,_,_,_,_,_,_,_,_,_,_,_,_,_,_,_,_,_,_,_,_,_,_,_,_,_,_,_,_,_,_,_,_,_,_,_,_,_,_,_,_,_,_,_,_,_,_,_,_,_,_,_,_,_,_,_,_,_,_,_,_,_,_,_,_,_,_,_,_,_,_,_,_], defers := _ } _
                        have ob : ∀ g, v1.ownBlock = some g → w.heap.size + 1 ≤ g ∧ g ≠ w.heap.size + 1 + 1 + 1 := fun g e => ⟨(SV.out.ge g e).1, NB1.out g e⟩
                        have sz2 : (y0.alloc (.cells #[.int .i64 (A5 : Int), .int .i64 (A6 : Int), .int .i64 (A7 : Int), .int .i64 (A8 : Int)] 100)).heap.size = y0.heap.size + 1 := by simp
                        have k5 : ∀ q, q < y0.heap.size → (∀ g, v1.ownBlock = some g → q ≠ g) → w5.heap[q]? = y0.heap[q]? := fun q hq hn => (grown_block hg5 (by rw [sz2]; omega) hn).trans (hb1.block q hq)
                        have BV5 := BV.out.ofBlock (k5 _ (by omega) (fun g e q => (ob g e).2 q.symm))
                        have f5 := BV5.fr 1
                        have c5 := BV5.c1
                        have X6 : Hid (Box2 (w5.setCell ⟨w.heap.size + 1 + 1 + 1, 1, none⟩ (.slice na (m + 1) nc)) w.heap.size 46 (.slice none 0 0) (.slice none 0 0)) := (X0.out.ofBlock (k5 _ (by omega) (fun g e q => by have := (ob g e).1; omega))).other (by simp; omega) _
                        have BV6 : Hid (Box2 (w5.setCell ⟨w.heap.size + 1 + 1 + 1, 1, none⟩ (.slice na (m + 1) nc)) (w.heap.size + 1 + 1 + 1) 46 v0 (.slice na (m + 1) nc)) := BV5.set1 _
                        have nn : ∀ g, (Value.slice na (m + 1) nc).ownBlock = some g → (v1.ownBlock = some g ∨ g = y0.heap.size + 1) := fun g e => by
                          rcases hl5 with q | q
                          · exact .inl (q.symm.trans e)
                          · right; rw [e] at q; rw [sz2] at q; exact Option.some.inj q
                        have N6 : Hid (∀ g, (Value.slice na (m + 1) nc).ownBlock = some g → g ≠ w.heap.size + 1 + 1 + 1) := fun g e => by
                          rcases nn g e with q | q
                          · exact (ob g q).2
                          · omega
                        have E6 : Hid (EO (w5.setCell ⟨w.heap.size + 1 + 1 + 1, 1, none⟩ (.slice na (m + 1) nc)) (w.heap.size + 1) 100 4 (.slice na (m + 1) nc) (m + 1) (seF (pSeO (strB T) (P + 1)))) := (hE5.keep (fun g e => heap_setOther _ _ (N6.out g e))).congr (fun i hi j hj => by unfold seF updE; by_cases q : i = m; rw [if_pos q, XR.out, q]; rw [if_neg q])
                        have O6 : Hid (EO (w5.setCell ⟨w.heap.size + 1 + 1 + 1, 1, none⟩ (.slice na (m + 1) nc)) (w.heap.size + 1) 54 3 v0 k (rgF (pRg (strB T)))) := RV.out.keep (fun g e => (heap_setOther _ _ (NB0.out g e)).trans (k5 g (RV.out.ge g e).2 (fun g2 e2 q => AP.out g e (q ▸ e2))))
                        have A6 : Hid (∀ g, v0.ownBlock = some g → (Value.slice na (m + 1) nc).ownBlock ≠ some g) := fun g e q => by
                          rcases nn g q with z | z
                          · exact AP.out g e z
                          · have := (RV.out.ge g e).2; omega
                        have SZ6 : Hid (w.heap.size + 1 + 1 + 1 + 1 ≤ (w5.setCell ⟨w.heap.size + 1 + 1 + 1, 1, none⟩ (.slice na (m + 1) nc)).heap.size) := by
                          have := hg5.size
                          rw [sz2] at this
                          show _ ≤ _
                          simp
                          omega
                        have AB6 : Hid (Below w.heap.size w (w5.setCell ⟨w.heap.size + 1 + 1 + 1, 1, none⟩ (.slice na (m + 1) nc))) := (AB.out.trans ((hb1.mono AB.out.size).trans (grown_belowE hg5 (by rw [sz2]; omega) (fun g e => by have := (ob g e).1; omega)))).setCell (by simp; omega) _
                        clear hE5 hg5 hl5 k5 BV5 lc hb1 sz2 ob nn
                        refine wpAnyH_ready (rs := [31]) (by kernel_rfl) (by simp) ?_
                        refine AllReadyH.cons rfl (fun KK hK => ?_) AllReadyH.nil
                        go_simp
                        refine hK.out _ _ H (fun _ => ?_)
                        clear hK KK
                        refine wpAnyH_done (by kernel_rfl) ?_ _
                        refine NoPanic.normal ?_
                        clear H X0 BV RV SV NB0 NB1 AP SZ AB hr5 szu f5 c5
                        have E7 : Hid (Q + 9 = P + 1 + 9 * (m + 1)) := by have := HQ.out; show _ = _; omega
                        have E8 : Hid (J - 1 = x4 - (m + 1) ∧ m + 1 ≤ x4) := by have := HJ.out; exact ⟨by omega, by omega⟩
                        have i8 : J ≤ 255 := by have := HJ.out; omega
                        have i9 : IntKind.i64.wrap ((J : Int) - 1) = ((J - 1 : Nat) : Int) := by rw [IntWalk.i64_in _ (by omega)]; omega
                        clear NA NC ND XR es wV slNA slNC slND
                        change Exit.then _ _ Exit.normal { tmps := #[_, _, _, _, _, _, _, _, _, _, _, _, _, _, _, _, _, _, _, _, _, _, _, _, _, _, _, _, _, _, _, _, _, _, _, _, _, _, _, _, _, _, _, _, _, _, _, _, _, _, _, _, _, _, _, _, _, _, _, _, _, _, _, _, _, _, _, _, _, _, _, _, _, _, _, _, _, _, _, _, _, _, _, _, _, _, _, _, _, _, _, _, _, _, _, _, _, _, _, _, _, _, _, _, _, _, _, _, _, _, _, _, _, _, _, _, _, _, _, _, _, _, _, _, _, _, _, _, _, _], defers := _ } _
                        go_wp2
                        go_roundw
                        case rel => exact ⟨m + 1, _, E8.out.2, by have := E7.out; omega, numEq8 (by have := E7.out; omega), numEq8 (by have := E8.out.1; omega), X6.out, BV6.out, O6.out, E6.out, NB0x.out, N6.out, A6.out, SZ6.out, AB6.out⟩
                        case measure => simp [intOf]; omega
                      · skip
                        go_simp
                        refine hK.out _ _ H (fun _ => ?_)
                        clear hK KK
                        change wpAnyH _ _ _ _ _ _ _ { tmps := #[_,_,_,_,_,_,_,_,_,_,_,_,_,_,_,_,_,_,_,_,_,_,_,_,_,_,_,_,_,_,_,_,_,_,_,_,_,_,_,_,_,_,_,_,_,_,_,_,_,_,_,_,_,_,_,_,_,_,_,_,_,_,_,_,_,_,_,_,_,_,_,_,_,_,_,_,_,_,_,_,_,_,_,_,_,_,_,_,_,_,_,_,_,_,_,_,_,_,_,_,_,_,_,_,_,_,_,_,_,_,_,_,_,_,_,_,_,_,_,_,_,_,_,_,_,_,_,_,_,_], defers := _ } _
                        refine wpAnyH_ready (rs := [1]) (by kernel_rfl) (by simp) ?_
                        refine (AllReadyH.cons rfl (fun KK hK => ?_) AllReadyH.nil)
                        have lb := (BV.out.below ((Below.refl _ _).alloc (Nat.le_refl _) _) : Box2 (y0.alloc (.cells #[.int .i64 (A5 : Int), .int .i64 (A6 : Int), .int .i64 (A7 : Int), .int .i64 (A8 : Int)] 100)) _ _ _ _).c1
                        go_simp
                        refine hK.out _ _ H (fun _ => ?_)
                        clear hK KK lb
                        change wpAnyH _ _ _ _ _ _ _ { tmps := #[_,_,_,_,_,_,_,_,_,_,_,_,_,_,_,_,_,_,_,_,_,_,_,_,_,_,_,_,_,_,_,_,_,_,_,_,_,_,_,_,_,_,_,_,_,_,_,_,_,_,_,_,_,_,_,_,_,_,_,_,_,_,_,_,_,_,_,_,_,_,_,_,_,_,_,_,_,_,_,_,_,_,_,_,_,_,_,_,_,_,_,_,_,_,_,_,_,_,_,_,_,_,_,_,_,_,_,_,_,_,_,_,_,_,_,_,_,_,_,_,_,_,_,_,_,_,_,_,_,_], defers := _ } _
                        have hb1 : Below y0.heap.size y0 (y0.alloc (.cells #[.int .i64 (A5 : Int), .int .i64 (A6 : Int), .int .i64 (A7 : Int), .int .i64 (A8 : Int)] 100)) := (Below.refl _ _).alloc (Nat.le_refl _) _
                        have lc : ∀ j, j < 4 → (y0.alloc (.cells #[.int .i64 (A5 : Int), .int .i64 (A6 : Int), .int .i64 (A7 : Int), .int .i64 (A8 : Int)] 100)).cell? ⟨y0.heap.size, 0 + j, none⟩ = some (seV (⟨(A5 : Int), (A6 : Int), (A7 : Int), (A8 : Int)⟩ : Se) j) := litCells (w := y0) (t := 100) (cs := #[.int .i64 (A5 : Int), .int .i64 (A6 : Int), .int .i64 (A7 : Int), .int .i64 (A8 : Int)]) (m := 4) (seV (⟨(A5 : Int), (A6 : Int), (A7 : Int), (A8 : Int)⟩ : Se)) rfl (fun i hi => by rcases (show i = 0 ∨ i = 1 ∨ i = 2 ∨ i = 3 by omega) with rfl | rfl | rfl | rfl <;> rfl)
                        have szu := SZ.out
                        obtain ⟨nv, w5, hr5, hE5, hg5, hl5⟩ := appSe (y0.alloc (.cells #[.int .i64 (A5 : Int), .int .i64 (A6 : Int), .int .i64 (A7 : Int), .int .i64 (A8 : Int)] 100)) (w.heap.size + 1) v1 m y0.heap.size (pSeO (strB T) (P + 1)) (⟨(A5 : Int), (A6 : Int), (A7 : Int), (A8 : Int)⟩ : Se) (by simp; omega) (by omega) (SV.out.below hb1) lc
                        obtain ⟨na, nc, rfl⟩ := hE5.form
                        refine wpAnyH_ready (rs := [29]) (by kernel_rfl) (by simp) ?_
                        refine AllReadyH.cons rfl (fun KK hK => ?_) AllReadyH.nil
                        rw [if_pos (by rfl)]
                        refine Lib.wp_append_run _ (.tmp 86) (.tmp 113) 44 44 rfl v1 (.slice (some ⟨y0.heap.size, 0, none⟩) 1 1) rfl rfl _ _ (hr5 _) ?_
                        refine hK.out _ _ H (fun _ => ?_)
                        clear hK KK
                        change wpAnyH _ _ _ _ _ _ _ { tmps := #[_,_,_,_,_,_,_,_,_,_,_,_,_,_,_,_,_,_,_,_,_,_,_,_,_,_,_,_,_,_,_,_,_,_,_,_,_,_,_,_,_,_,_,_,_,_,_,_,_,_,_,_,_,_,_,_,_,_,_,_,_,_,_,_,_,_,_,_,_,_,_,_,_,_,_,_,_,_,_,_,_,_,_,_,_,_,_,_,_,_,_,_,_,_,_,_,_,_,_,_,_,_,_,_,_,_,_,_,_,_,_,_,_,_,_,_,_,_,_,_,_,_,_,_,_,_,_,_,_,_], defers := _ } _
                        refine wpAnyH_take (i := 30) (v := .pointer (some ⟨w.heap.size + 1 + 1 + 1, 1, none⟩)) rfl (by kernel_rfl) (by kernel_rfl) (by kernel_rfl) (fun _ _ _ h => h) (Or.inl ⟨by rfl, ?_⟩) H ?_
                        · intro w' hSw; clear hSw; go_simp
                        change wpAnyH _ _ _ _ _ _ _ { tmps := #[_,_,_,_,_,_,_,_,_,_,_,_,_,_,_,_,_,_,_,_,_,_,_,_,_,_,_,_,_,_,_,_,_,_,_,_,_,_,_,_,_,_,_,_,_,_,_,_,_,_,_,_,_,_,_,_,_,_,_,_,_,_,_,_,_,_,_,_,_,_,_,_,_,_,_,_,_,_,_,_,_,_,_,_,_,_,_,_,_,_,_,_,_,_,_,_,_,_,_,_,_,_,_,_,_,_,_,_,_,_,_,_,_,_,_,_,_,_,_,_,_,_,_,_,_,_,_,_,_,_], defers := _ } _
                        have ob : ∀ g, v1.ownBlock = some g → w.heap.size + 1 ≤ g ∧ g ≠ w.heap.size + 1 + 1 + 1 := fun g e => ⟨(SV.out.ge g e).1, NB1.out g e⟩
                        have sz2 : (y0.alloc (.cells #[.int .i64 (A5 : Int), .int .i64 (A6 : Int), .int .i64 (A7 : Int), .int .i64 (A8 : Int)] 100)).heap.size = y0.heap.size + 1 := by simp
                        have k5 : ∀ q, q < y0.heap.size → (∀ g, v1.ownBlock = some g → q ≠ g) → w5.heap[q]? = y0.heap[q]? := fun q hq hn => (grown_block hg5 (by rw [sz2]; omega) hn).trans (hb1.block q hq)
                        have BV5 := BV.out.ofBlock (k5 _ (by omega) (fun g e q => (ob g e).2 q.symm))
                        have f5 := BV5.fr 1
                        have c5 := BV5.c1
                        have X6 : Hid (Box2 (w5.setCell ⟨w.heap.size + 1 + 1 + 1, 1, none⟩ (.slice na (m + 1) nc)) w.heap.size 46 (.slice none 0 0) (.slice none 0 0)) := (X0.out.ofBlock (k5 _ (by omega) (fun g e q => by have := (ob g e).1; omega))).other (by simp; omega) _
                        have BV6 : Hid (Box2 (w5.setCell ⟨w.heap.size + 1 + 1 + 1, 1, none⟩ (.slice na (m + 1) nc)) (w.heap.size + 1 + 1 + 1) 46 v0 (.slice na (m + 1) nc)) := BV5.set1 _
                        have nn : ∀ g, (Value.slice na (m + 1) nc).ownBlock = some g → (v1.ownBlock = some g ∨ g = y0.heap.size + 1) := fun g e => by
                          rcases hl5 with q | q
                          · exact .inl (q.symm.trans e)
                          · right; rw [e] at q; rw [sz2] at q; exact Option.some.inj q
                        have N6 : Hid (∀ g, (Value.slice na (m + 1) nc).ownBlock = some g → g ≠ w.heap.size + 1 + 1 + 1) := fun g e => by
                          rcases nn g e with q | q
                          · exact (ob g q).2
                          · omega
                        have E6 : Hid (EO (w5.setCell ⟨w.heap.size + 1 + 1 + 1, 1, none⟩ (.slice na (m + 1) nc)) (w.heap.size + 1) 100 4 (.slice na (m + 1) nc) (m + 1) (seF (pSeO (strB T) (P + 1)))) := (hE5.keep (fun g e => heap_setOther _ _ (N6.out g e))).congr (fun i hi j hj => by unfold seF updE; by_cases q : i = m; rw [if_pos q, XR.out, q]; rw [if_neg q])
                        have O6 : Hid (EO (w5.setCell ⟨w.heap.size + 1 + 1 + 1, 1, none⟩ (.slice na (m + 1) nc)) (w.heap.size + 1) 54 3 v0 k (rgF (pRg (strB T)))) := RV.out.keep (fun g e => (heap_setOther _ _ (NB0.out g e)).trans (k5 g (RV.out.ge g e).2 (fun g2 e2 q => AP.out g e (q ▸ e2))))
                        have A6 : Hid (∀ g, v0.ownBlock = some g → (Value.slice na (m + 1) nc).ownBlock ≠ some g) := fun g e q => by
                          rcases nn g q with z | z
                          · exact AP.out g e z
                          · have := (RV.out.ge g e).2; omega
                        have SZ6 : Hid (w.heap.size + 1 + 1 + 1 + 1 ≤ (w5.setCell ⟨w.heap.size + 1 + 1 + 1, 1, none⟩ (.slice na (m + 1) nc)).heap.size) := by
                          have := hg5.size
                          rw [sz2] at this
                          show _ ≤ _
                          simp
                          omega
                        have AB6 : Hid (Below w.heap.size w (w5.setCell ⟨w.heap.size + 1 + 1 + 1, 1, none⟩ (.slice na (m + 1) nc))) := (AB.out.trans ((hb1.mono AB.out.size).trans (grown_belowE hg5 (by rw [sz2]; omega) (fun g e => by have := (ob g e).1; omega)))).setCell (by simp; omega) _
                        clear hE5 hg5 hl5 k5 BV5 lc hb1 sz2 ob nn
                        refine wpAnyH_ready (rs := [31]) (by kernel_rfl) (by simp) ?_
                        refine AllReadyH.cons rfl (fun KK hK => ?_) AllReadyH.nil
                        go_simp
                        refine hK.out _ _ H (fun _ => ?_)
                        clear hK KK
                        refine wpAnyH_done (by kernel_rfl) ?_ _
                        refine NoPanic.normal ?_
                        clear H X0 BV RV SV NB0 NB1 AP SZ AB hr5 szu f5 c5
                        have E7 : Hid (Q + 9 = P + 1 + 9 * (m + 1)) := by have := HQ.out; show _ = _; omega
                        have E8 : Hid (J - 1 = x4 - (m + 1) ∧ m + 1 ≤ x4) := by have := HJ.out; exact ⟨by omega, by omega⟩
                        have i8 : J ≤ 255 := by have := HJ.out; omega
                        have i9 : IntKind.i64.wrap ((J : Int) - 1) = ((J - 1 : Nat) : Int) := by rw [IntWalk.i64_in _ (by omega)]; omega
                        clear NA NC ND XR es wV slNA slNC slND
                        change Exit.then _ _ Exit.normal { tmps := #[_, _, _, _, _, _, _, _, _, _, _, _, _, _, _, _, _, _, _, _, _, _, _, _, _, _, _, _, _, _, _, _, _, _, _, _, _, _, _, _, _, _, _, _, _, _, _, _, _, _, _, _, _, _, _, _, _, _, _, _, _, _, _, _, _, _, _, _, _, _, _, _, _, _, _, _, _, _, _, _, _, _, _, _, _, _, _, _, _, _, _, _, _, _, _, _, _, _, _, _, _, _, _, _, _, _, _, _, _, _, _, _, _, _, _, _, _, _, _, _, _, _, _, _, _, _, _, _, _, _], defers := _ } _
                        go_wp2
                        go_roundw
                        case rel => exact ⟨m + 1, _, E8.out.2, by have := E7.out; omega, numEq8 (by have := E7.out; omega), numEq8 (by have := E8.out.1; omega), X6.out, BV6.out, O6.out, E6.out, NB0x.out, N6.out, A6.out, SZ6.out, AB6.out⟩
                        case measure => simp [intOf]; omega
              · have MX : Hid (Whole T.size (strB T) → m = pNs (strB T)) := fun q => by
                  have h1 := KX.out q
                  have h2 := HX4.out h1
                  have h3 := HP.out
                  unfold Whole at q
                  rw [h2, ← h1] at q
                  rw [h2]
                  omega
                rcases (show J = 0 ∨ (0 < J ∧ T.size < Q + 9) by omega) with hz | ⟨hz, hz2⟩
                · subst hz
                  clear hQ hJ hlt
                  obtain ⟨ra, rc, rfl⟩ := RV.out.form
                  obtain ⟨sa, sc, rfl⟩ := SV.out.form
                  have EK : Hid ((⟨k, pRg (strB T), m, pSeO (strB T) (P + 1)⟩ : Bk) = pK (strB T) k m) := by show _ = _; unfold pK; rw [HP.out]
                  have BO : Hid (∀ v : World, BankV v (pK (strB T) k m) ra sa → Calls Tryd.prog 62 #[.agg #[.slice ra k rc, .slice sa m sc]] v fun e w' => e = .returned (.bool (okB (pK (strB T) k m).Ok)) ∧ Below v.heap.size v w') := fun v h => specBankOK_any (pK (strB T) k m) ra sa rc sc v h
                  have LB : Hid (∀ v : World, (pK (strB T) k m).Ok → BankV v (pK (strB T) k m) ra sa → Calls Tryd.prog 63 #[.agg #[.slice ra k rc, .slice sa m sc]] v fun e w' => (∃ g c, e = .returned (.slice (some ⟨g, 0, none⟩) (bankL (pK (strB T) k m)).length c) ∧ RL w' v.heap.size g c (bankL (pK (strB T) k m))) ∧ Below v.heap.size v w') := fun v hk h => l08Bytes_any (pK (strB T) k m) hk ra sa rc sc v h
                  have BVV : Hid (BankV wr (pK (strB T) k m) ra sa) := by
                    have h1 := SV.out.els
                    refine ⟨RV.out.els, ?_⟩
                    show Els wr 4 sa m (seF (pSeO (strB T) (1 + 37 * k + 1)))
                    rw [← HP.out]
                    exact h1
                  have HOK : Hid ((pK (strB T) k m).Ok ∨ ¬ (pK (strB T) k m).Ok) := Classical.em _
                  have PE : Hid (Whole T.size (strB T) → pK (strB T) k m = pB (strB T)) := fun q => by rw [pB_K, ← KX.out q, ← MX.out q]
                  have b0 := BV.out.c0
                  have b1 := BV.out.c1
                  go_wp2_with fail
                  refine (BO.out _ BVV.out).mono ?_
                  rintro e y1 ⟨rfl, hb⟩
                  clear b0 b1 BO
                  replace X0 : Hid (Box2 y1 w.heap.size 46 (.slice none 0 0) (.slice none 0 0)) := X0.out.below hb
                  replace BV : Hid (Box2 y1 (w.heap.size + 1 + 1 + 1) 46 (.slice ra k rc) (.slice sa m sc)) := BV.out.below hb
                  replace RV : Hid (EO y1 (w.heap.size + 1) 54 3 (.slice ra k rc) k (rgF (pRg (strB T)))) := RV.out.below hb
                  replace SV : Hid (EO y1 (w.heap.size + 1) 100 4 (.slice sa m sc) m (seF (pSeO (strB T) (P + 1)))) := SV.out.below hb
                  replace SZ : Hid (w.heap.size + 1 + 1 + 1 + 1 ≤ y1.heap.size) := Nat.le_trans SZ.out hb.size
                  replace AB : Hid (Below w.heap.size w y1) := AB.out.trans (hb.mono AB.out.size)
                  replace BVV : Hid (BankV y1 (pK (strB T) k m) ra sa) := BVV.out.below hb
                  clear hb
                  rcases HOK.out with hk9 | hk9
                  · rw [okB_yes hk9]
                    have LH := LB.out
                    have b0 := BV.out.c0
                    have b1 := BV.out.c1
                    have HK9 : Hid ((pK (strB T) k m).Ok) := hk9
                    clear hk9 HOK LH
                    go_wp2_with fail
                    refine (LB.out _ HK9.out BVV.out).mono ?_
                    rintro e y2 ⟨⟨g, gc, rfl, hrl⟩, hb⟩
                    clear b0 b1 LB
                    have hcv : (convert 40 9 (.slice (some ⟨g, 0, none⟩) (bankL (pK (strB T) k m)).length gc)).run Tryd.prog y2 = .ok (.string (kstr (fun i => (bankL (pK (strB T) k m)).getD i 0) 0 (bankL (pK (strB T) k m)).length)) y2 := kstr_of_code (code8_of_RL hrl)
                    replace X0 : Hid (Box2 y2 w.heap.size 46 (.slice none 0 0) (.slice none 0 0)) := X0.out.below hb
                    replace BV : Hid (Box2 y2 (w.heap.size + 1 + 1 + 1) 46 (.slice ra k rc) (.slice sa m sc)) := BV.out.below hb
                    replace RV : Hid (EO y2 (w.heap.size + 1) 54 3 (.slice ra k rc) k (rgF (pRg (strB T)))) := RV.out.below hb
                    replace SV : Hid (EO y2 (w.heap.size + 1) 100 4 (.slice sa m sc) m (seF (pSeO (strB T) (P + 1)))) := SV.out.below hb
                    replace SZ : Hid (w.heap.size + 1 + 1 + 1 + 1 ≤ y2.heap.size) := Nat.le_trans SZ.out hb.size
                    replace AB : Hid (Below w.heap.size w y2) := AB.out.trans (hb.mono AB.out.size)
                    replace BVV : Hid (BankV y2 (pK (strB T) k m) ra sa) := BVV.out.below hb
                    clear hb hrl
                    have TN := text_no (bankL (pK (strB T) k m)) T (fun i => bankL_lt HF.out k m (by omega) (by omega) i)
                    have TY := text_yes (bankL (pK (strB T) k m)) T
                    have TNH : Hid (kstr (fun i => (bankL (pK (strB T) k m)).getD i 0) 0 (bankL (pK (strB T) k m)).length = T → bankL (pK (strB T) k m) = seg (strB T) 0 T.size) := TN
                    have TYH : Hid (bankL (pK (strB T) k m) = seg (strB T) 0 T.size → kstr (fun i => (bankL (pK (strB T) k m)).getD i 0) 0 (bankL (pK (strB T) k m)).length = T) := TY
                    clear TN TY
                    generalize hU : kstr (fun i => (bankL (pK (strB T) k m)).getD i 0) 0 (bankL (pK (strB T) k m)).length = U at *
                    clear hU
                    generalize (bankL (pK (strB T) k m)).length = nl at *
                    by_cases hT : U = T
                    · have WW := whole_of (hF := HF.out) (TNH.out hT)
                      have GD : Hid (Whole T.size (strB T) ∧ (pB (strB T)).Ok) := ⟨WW.2.2, by rw [← PE.out WW.2.2]; exact HK9.out⟩
                      have WH : Hid (k = pNr (strB T) ∧ m = pNs (strB T)) := ⟨WW.1, WW.2.1⟩
                      subst hT
                      clear WW TNH TYH PE MX KX HX4 HK9
                      have b0 := BV.out.c0
                      have b1 := BV.out.c1
                      have r0 := X0.out.c0
                      have r1 := X0.out.c1
                      have f0 := X0.out.fr 0
                      have f1 := X0.out.fr 1
                      go_wp2
                      have Y : Box2 ((y2.setCell ⟨w.heap.size, 0, none⟩ (.slice ra k rc)).setCell ⟨w.heap.size, 1, none⟩ (.slice sa m sc)) w.heap.size 46 (.slice ra k rc) (.slice sa m sc) := (X0.out.set0 _).set1 _
                      have kk : ∀ q, w.heap.size + 1 ≤ q → (((y2.setCell ⟨w.heap.size, 0, none⟩ (.slice ra k rc)).setCell ⟨w.heap.size, 1, none⟩ (.slice sa m sc))).heap[q]? = y2.heap[q]? := fun q hq => (heap_setOther _ _ (by show q ≠ w.heap.size; omega)).trans (heap_setOther _ _ (by show q ≠ w.heap.size; omega))
                      refine ret_cell2 (b := w.heap.size) Tryd.results29 rfl rfl (Box2.loadB Y) ⟨.inl ⟨GD.out, ?_⟩, (AB.out.setCell (by simp) _).setCell (by simp) _⟩
                      obtain ⟨i2, i4⟩ := WH.out
                      have RR := RV.out.keep (w' := ((y2.setCell ⟨w.heap.size, 0, none⟩ (.slice ra k rc)).setCell ⟨w.heap.size, 1, none⟩ (.slice sa m sc))) (fun q e => kk q (RV.out.ge q e).1)
                      have SS := SV.out.keep (w' := ((y2.setCell ⟨w.heap.size, 0, none⟩ (.slice ra k rc)).setCell ⟨w.heap.size, 1, none⟩ (.slice sa m sc))) (fun q e => kk q (SV.out.ge q e).1)
                      have AQ := AP.out
                      unfold RetBk
                      rw [pB_K, ← i2, ← i4]
                      unfold pK
                      dsimp only
                      rw [← HP.out]
                      exact ⟨ra, rc, sa, sc, rfl, ownsRow_monoE RR (by omega), ownsRow_monoE SS (by omega), AQ⟩
                    · have hT3 : ¬ U.toList = T.toList := fun e => hT (ba_ext (by rw [ByteArray.toList_eq, ByteArray.toList_eq] at e; exact e))
                      have hT2 : (U.toList == T.toList) = false := by simpa using hT3
                      have GD : Hid (¬ (Whole T.size (strB T) ∧ (pB (strB T)).Ok)) := fun q => hT (TYH.out (by rw [PE.out q.1]; exact bytes_whole (strB T) HF.out T.size q.1))
                      have r0 := X0.out.c0
                      have r1 := X0.out.c1
                      have f0 := X0.out.fr 0
                      have f1 := X0.out.fr 1
                      clear TNH TYH PE MX KX HX4 HK9
                      go_wp2
                      exact ret_cell2 (b := w.heap.size) Tryd.results29 rfl rfl (Box2.loadB ((X0.out.set0 _).set1 _)) ⟨.inr ⟨GD.out, rfl⟩, (AB.out.setCell (by simp) _).setCell (by simp) _⟩
                  · rw [okB_no hk9]
                    have GD : Hid (¬ (Whole T.size (strB T) ∧ (pB (strB T)).Ok)) := fun q => hk9 (by rw [PE.out q.1]; exact q.2)
                    have r0 := X0.out.c0
                    have r1 := X0.out.c1
                    have f0 := X0.out.fr 0
                    have f1 := X0.out.fr 1
                    clear hk9 HOK LB PE MX KX HX4
                    go_wp2
                    exact ret_cell2 (b := w.heap.size) Tryd.results29 rfl rfl (Box2.loadB ((X0.out.set0 _).set1 _)) ⟨.inr ⟨GD.out, rfl⟩, (AB.out.setCell (by simp) _).setCell (by simp) _⟩
                · have z3 : (0 : Int) < (J : Int) := by omega
                  have z4 : ¬ (Q : Int) + 9 ≤ (T.size : Int) := by omega
                  clear hQ hJ hlt hz hz2
                  obtain ⟨ra, rc, rfl⟩ := RV.out.form
                  obtain ⟨sa, sc, rfl⟩ := SV.out.form
                  have EK : Hid ((⟨k, pRg (strB T), m, pSeO (strB T) (P + 1)⟩ : Bk) = pK (strB T) k m) := by show _ = _; unfold pK; rw [HP.out]
                  have BO : Hid (∀ v : World, BankV v (pK (strB T) k m) ra sa → Calls Tryd.prog 62 #[.agg #[.slice ra k rc, .slice sa m sc]] v fun e w' => e = .returned (.bool (okB (pK (strB T) k m).Ok)) ∧ Below v.heap.size v w') := fun v h => specBankOK_any (pK (strB T) k m) ra sa rc sc v h
                  have LB : Hid (∀ v : World, (pK (strB T) k m).Ok → BankV v (pK (strB T) k m) ra sa → Calls Tryd.prog 63 #[.agg #[.slice ra k rc, .slice sa m sc]] v fun e w' => (∃ g c, e = .returned (.slice (some ⟨g, 0, none⟩) (bankL (pK (strB T) k m)).length c) ∧ RL w' v.heap.size g c (bankL (pK (strB T) k m))) ∧ Below v.heap.size v w') := fun v hk h => l08Bytes_any (pK (strB T) k m) hk ra sa rc sc v h
                  have BVV : Hid (BankV wr (pK (strB T) k m) ra sa) := by
                    have h1 := SV.out.els
                    refine ⟨RV.out.els, ?_⟩
                    show Els wr 4 sa m (seF (pSeO (strB T) (1 + 37 * k + 1)))
                    rw [← HP.out]
                    exact h1
                  have HOK : Hid ((pK (strB T) k m).Ok ∨ ¬ (pK (strB T) k m).Ok) := Classical.em _
                  have PE : Hid (Whole T.size (strB T) → pK (strB T) k m = pB (strB T)) := fun q => by rw [pB_K, ← KX.out q, ← MX.out q]
                  have b0 := BV.out.c0
                  have b1 := BV.out.c1
                  go_wp2_with fail
                  refine (BO.out _ BVV.out).mono ?_
                  rintro e y1 ⟨rfl, hb⟩
                  clear b0 b1 BO
                  replace X0 : Hid (Box2 y1 w.heap.size 46 (.slice none 0 0) (.slice none 0 0)) := X0.out.below hb
                  replace BV : Hid (Box2 y1 (w.heap.size + 1 + 1 + 1) 46 (.slice ra k rc) (.slice sa m sc)) := BV.out.below hb
                  replace RV : Hid (EO y1 (w.heap.size + 1) 54 3 (.slice ra k rc) k (rgF (pRg (strB T)))) := RV.out.below hb
                  replace SV : Hid (EO y1 (w.heap.size + 1) 100 4 (.slice sa m sc) m (seF (pSeO (strB T) (P + 1)))) := SV.out.below hb
                  replace SZ : Hid (w.heap.size + 1 + 1 + 1 + 1 ≤ y1.heap.size) := Nat.le_trans SZ.out hb.size
                  replace AB : Hid (Below w.heap.size w y1) := AB.out.trans (hb.mono AB.out.size)
                  replace BVV : Hid (BankV y1 (pK (strB T) k m) ra sa) := BVV.out.below hb
                  clear hb
                  rcases HOK.out with hk9 | hk9
                  · rw [okB_yes hk9]
                    have LH := LB.out
                    have b0 := BV.out.c0
                    have b1 := BV.out.c1
                    have HK9 : Hid ((pK (strB T) k m).Ok) := hk9
                    clear hk9 HOK LH
                    go_wp2_with fail
                    refine (LB.out _ HK9.out BVV.out).mono ?_
                    rintro e y2 ⟨⟨g, gc, rfl, hrl⟩, hb⟩
                    clear b0 b1 LB
                    have hcv : (convert 40 9 (.slice (some ⟨g, 0, none⟩) (bankL (pK (strB T) k m)).length gc)).run Tryd.prog y2 = .ok (.string (kstr (fun i => (bankL (pK (strB T) k m)).getD i 0) 0 (bankL (pK (strB T) k m)).length)) y2 := kstr_of_code (code8_of_RL hrl)
                    replace X0 : Hid (Box2 y2 w.heap.size 46 (.slice none 0 0) (.slice none 0 0)) := X0.out.below hb
                    replace BV : Hid (Box2 y2 (w.heap.size + 1 + 1 + 1) 46 (.slice ra k rc) (.slice sa m sc)) := BV.out.below hb
                    replace RV : Hid (EO y2 (w.heap.size + 1) 54 3 (.slice ra k rc) k (rgF (pRg (strB T)))) := RV.out.below hb
                    replace SV : Hid (EO y2 (w.heap.size + 1) 100 4 (.slice sa m sc) m (seF (pSeO (strB T) (P + 1)))) := SV.out.below hb
                    replace SZ : Hid (w.heap.size + 1 + 1 + 1 + 1 ≤ y2.heap.size) := Nat.le_trans SZ.out hb.size
                    replace AB : Hid (Below w.heap.size w y2) := AB.out.trans (hb.mono AB.out.size)
                    replace BVV : Hid (BankV y2 (pK (strB T) k m) ra sa) := BVV.out.below hb
                    clear hb hrl
                    have TN := text_no (bankL (pK (strB T) k m)) T (fun i => bankL_lt HF.out k m (by omega) (by omega) i)
                    have TY := text_yes (bankL (pK (strB T) k m)) T
                    have TNH : Hid (kstr (fun i => (bankL (pK (strB T) k m)).getD i 0) 0 (bankL (pK (strB T) k m)).length = T → bankL (pK (strB T) k m) = seg (strB T) 0 T.size) := TN
                    have TYH : Hid (bankL (pK (strB T) k m) = seg (strB T) 0 T.size → kstr (fun i => (bankL (pK (strB T) k m)).getD i 0) 0 (bankL (pK (strB T) k m)).length = T) := TY
                    clear TN TY
                    generalize hU : kstr (fun i => (bankL (pK (strB T) k m)).getD i 0) 0 (bankL (pK (strB T) k m)).length = U at *
                    clear hU
                    generalize (bankL (pK (strB T) k m)).length = nl at *
                    by_cases hT : U = T
                    · have WW := whole_of (hF := HF.out) (TNH.out hT)
                      have GD : Hid (Whole T.size (strB T) ∧ (pB (strB T)).Ok) := ⟨WW.2.2, by rw [← PE.out WW.2.2]; exact HK9.out⟩
                      have WH : Hid (k = pNr (strB T) ∧ m = pNs (strB T)) := ⟨WW.1, WW.2.1⟩
                      subst hT
                      clear WW TNH TYH PE MX KX HX4 HK9
                      have b0 := BV.out.c0
                      have b1 := BV.out.c1
                      have r0 := X0.out.c0
                      have r1 := X0.out.c1
                      have f0 := X0.out.fr 0
                      have f1 := X0.out.fr 1
                      go_wp2
                      have Y : Box2 ((y2.setCell ⟨w.heap.size, 0, none⟩ (.slice ra k rc)).setCell ⟨w.heap.size, 1, none⟩ (.slice sa m sc)) w.heap.size 46 (.slice ra k rc) (.slice sa m sc) := (X0.out.set0 _).set1 _
                      have kk : ∀ q, w.heap.size + 1 ≤ q → (((y2.setCell ⟨w.heap.size, 0, none⟩ (.slice ra k rc)).setCell ⟨w.heap.size, 1, none⟩ (.slice sa m sc))).heap[q]? = y2.heap[q]? := fun q hq => (heap_setOther _ _ (by show q ≠ w.heap.size; omega)).trans (heap_setOther _ _ (by show q ≠ w.heap.size; omega))
                      refine ret_cell2 (b := w.heap.size) Tryd.results29 rfl rfl (Box2.loadB Y) ⟨.inl ⟨GD.out, ?_⟩, (AB.out.setCell (by simp) _).setCell (by simp) _⟩
                      obtain ⟨i2, i4⟩ := WH.out
                      have RR := RV.out.keep (w' := ((y2.setCell ⟨w.heap.size, 0, none⟩ (.slice ra k rc)).setCell ⟨w.heap.size, 1, none⟩ (.slice sa m sc))) (fun q e => kk q (RV.out.ge q e).1)
                      have SS := SV.out.keep (w' := ((y2.setCell ⟨w.heap.size, 0, none⟩ (.slice ra k rc)).setCell ⟨w.heap.size, 1, none⟩ (.slice sa m sc))) (fun q e => kk q (SV.out.ge q e).1)
                      have AQ := AP.out
                      unfold RetBk
                      rw [pB_K, ← i2, ← i4]
                      unfold pK
                      dsimp only
                      rw [← HP.out]
                      exact ⟨ra, rc, sa, sc, rfl, ownsRow_monoE RR (by omega), ownsRow_monoE SS (by omega), AQ⟩
                    · have hT3 : ¬ U.toList = T.toList := fun e => hT (ba_ext (by rw [ByteArray.toList_eq, ByteArray.toList_eq] at e; exact e))
                      have hT2 : (U.toList == T.toList) = false := by simpa using hT3
                      have GD : Hid (¬ (Whole T.size (strB T) ∧ (pB (strB T)).Ok)) := fun q => hT (TYH.out (by rw [PE.out q.1]; exact bytes_whole (strB T) HF.out T.size q.1))
                      have r0 := X0.out.c0
                      have r1 := X0.out.c1
                      have f0 := X0.out.fr 0
                      have f1 := X0.out.fr 1
                      clear TNH TYH PE MX KX HX4 HK9
                      go_wp2
                      exact ret_cell2 (b := w.heap.size) Tryd.results29 rfl rfl (Box2.loadB ((X0.out.set0 _).set1 _)) ⟨.inr ⟨GD.out, rfl⟩, (AB.out.setCell (by simp) _).setCell (by simp) _⟩
                  · rw [okB_no hk9]
                    have GD : Hid (¬ (Whole T.size (strB T) ∧ (pB (strB T)).Ok)) := fun q => hk9 (by rw [PE.out q.1]; exact q.2)
                    have r0 := X0.out.c0
                    have r1 := X0.out.c1
                    have f0 := X0.out.fr 0
                    have f1 := X0.out.fr 1
                    clear hk9 HOK LB PE MX KX HX4
                    go_wp2
                    exact ret_cell2 (b := w.heap.size) Tryd.results29 rfl rfl (Box2.loadB ((X0.out.set0 _).set1 _)) ⟨.inr ⟨GD.out, rfl⟩, (AB.out.setCell (by simp) _).setCell (by simp) _⟩
        · have KX : Hid (Whole T.size (strB T) → k = pNr (strB T)) := fun q => by
            unfold Whole at q
            rw [HNR.out] at q
            omega
          have z1 : (0 : Int) < (I : Int) := by omega
          have z2 : ¬ (P : Int) + 37 ≤ (T.size : Int) := by omega
          clear hI hlt hz hz2
          by_cases hat : T.size ≤ P
          · have GD : Hid (¬ (Whole T.size (strB T) ∧ (pB (strB T)).Ok)) := fun q => by
              have h1 := KX.out q.1
              have h2 := q.1
              unfold Whole at h2
              omega
            have hat' : (T.size : Int) ≤ (P : Int) := by omega
            have r0 := X0.out.c0
            have r1 := X0.out.c1
            have f0 := X0.out.fr 0
            have f1 := X0.out.fr 1
            clear hP hat
            go_wp2
            exact ret_cell2 (b := w.heap.size) Tryd.results29 rfl rfl (Box2.loadB ((X0.out.set0 _).set1 _)) ⟨.inr ⟨GD.out, rfl⟩, (AB.out.setCell (by simp) _).setCell (by simp) _⟩
          · have hat' : ¬ (T.size : Int) ≤ (P : Int) := by omega
            have pl : P < T.size := by clear hP; omega
            have es := strB_eq T P pl
            have hl8 := strB_lt T P
            have pl' : (P : Int) < (T.size : Int) := by omega
            have pz : (0 : Int) ≤ (P : Int) := by omega
            have HX4 : Hid (k = pNr (strB T) → pNs (strB T) = strB T P) := fun e => by rw [pNs_at, ← e, ← hP]
            generalize strB T P = x4 at *
            have wV : IntKind.i64.wrap (x4 : Int) = (x4 : Int) := IntWalk.i64_in _ (by omega)
            have a1 : IntKind.i64.wrap ((P : Int) + 1) = ((P + 1 : Nat) : Int) := by rw [IntWalk.i64_in _ (by omega)]; omega
            clear hP hat
            go_wp2
            clear es wV a1
            replace SV : Hid (EO wr (w.heap.size + 1) 100 4 (.slice (some ⟨w.heap.size + 1 + 1, 0, none⟩) 0 0) 0 (seF (pSeO (strB T) (P + 1)))) := SV.out.congr (fun i hi => absurd hi (by omega))
            go_loopw [6, 9] (fun t i wr => ∃ (m : Nat) (v1 : Value), m ≤ x4 ∧ P + 1 + 9 * m ≤ T.size ∧ t = .int .i64 ((P + 1 + 9 * m : Nat) : Int) ∧ i = .int .i64 ((x4 - m : Nat) : Int) ∧ (Box2 wr w.heap.size 46 (.slice none 0 0) (.slice none 0 0)) ∧ (Box2 wr (w.heap.size + 1 + 1 + 1) 46 v0 v1) ∧ (EO wr (w.heap.size + 1) 54 3 v0 k (rgF (pRg (strB T)))) ∧ (EO wr (w.heap.size + 1) 100 4 v1 m (seF (pSeO (strB T) (P + 1)))) ∧ (∀ g, v0.ownBlock = some g → g ≠ w.heap.size + 1 + 1 + 1) ∧ (∀ g, v1.ownBlock = some g → g ≠ w.heap.size + 1 + 1 + 1) ∧ (∀ g, v0.ownBlock = some g → v1.ownBlock ≠ some g) ∧ (w.heap.size + 1 + 1 + 1 + 1 ≤ wr.heap.size) ∧ (Below w.heap.size w wr)) (fun _ i _ => (intOf i).toNat)
            case atStart => exact ⟨0, _, by omega, by omega, numEq8 (by omega), rfl, X0.out, BV.out, RV.out, SV.out, NB0.out, NB1.out, AP.out, SZ.out, AB.out⟩
            case round =>
              clear X0 BV RV SV NB0 NB1 AP SZ AB
              obtain ⟨m, v1, hm, hmN, rfl, rfl, X0, BV, RV, SV, NB0, NB1, AP, SZ, AB⟩ := hrel
              replace X0 : Hid (Box2 wr w.heap.size 46 (.slice none 0 0) (.slice none 0 0)) := X0
              replace BV : Hid (Box2 wr (w.heap.size + 1 + 1 + 1) 46 v0 v1) := BV
              replace RV : Hid (EO wr (w.heap.size + 1) 54 3 v0 k (rgF (pRg (strB T)))) := RV
              replace SV : Hid (EO wr (w.heap.size + 1) 100 4 v1 m (seF (pSeO (strB T) (P + 1)))) := SV
              replace NB0 : Hid (∀ g, v0.ownBlock = some g → g ≠ w.heap.size + 1 + 1 + 1) := NB0
              replace NB1 : Hid (∀ g, v1.ownBlock = some g → g ≠ w.heap.size + 1 + 1 + 1) := NB1
              replace AP : Hid (∀ g, v0.ownBlock = some g → v1.ownBlock ≠ some g) := AP
              replace SZ : Hid (w.heap.size + 1 + 1 + 1 + 1 ≤ wr.heap.size) := SZ
              replace AB : Hid (Below w.heap.size w wr) := AB
              obtain ⟨Q, hQ⟩ : ∃ Q, Q = P + 1 + 9 * m := ⟨_, rfl⟩
              have HQ : Hid (Q = P + 1 + 9 * m) := hQ
              obtain ⟨J, hJ⟩ : ∃ J, J = x4 - m := ⟨_, rfl⟩
              have HJ : Hid (J = x4 - m) := hJ
              rw [← hQ, ← hJ]
              have g0 : Q ≤ T.size := by omega
              by_cases hlt : 0 < J ∧ Q + 9 ≤ T.size
              · obtain ⟨q1, q2⟩ := hlt
                have q1' : (0 : Int) < (J : Int) := by omega
                have q2' : (Q : Int) + 9 ≤ (T.size : Int) := by omega
                have pl4 : Q + 4 < T.size := by clear hQ hJ; omega
                have es := strB_eq T (Q + 4) pl4
                have pl4' : ((Q + 4 : Nat) : Int) < (T.size : Int) := by omega
                have pl5 : (Q : Int) + 4 < (T.size : Int) := by omega
                have pz4 : (0 : Int) ≤ (Q : Int) + 4 := by omega
                have tz4 : ((Q : Int) + 4).toNat = Q + 4 := by omega
                have b2 : IntKind.i64.wrap ((Q : Int) + 2) = ((Q + 2 : Nat) : Int) := by rw [IntWalk.i64_in _ (by omega)]; omega
                have b4 : IntKind.i64.wrap ((Q : Int) + 4) = ((Q + 4 : Nat) : Int) := by rw [IntWalk.i64_in _ (by omega)]; omega
                have b5 : IntKind.i64.wrap ((Q : Int) + 5) = ((Q + 5 : Nat) : Int) := by rw [IntWalk.i64_in _ (by omega)]; omega
                have b9 : IntKind.i64.wrap ((Q : Int) + 9) = ((Q + 9 : Nat) : Int) := by rw [IntWalk.i64_in _ (by omega)]; omega
                have hl4 := strB_lt T (Q + 4)
                have NA : Hid (∀ w : World, Calls Tryd.prog 67 #[.string (T.extract Q (Q + 2))] w fun e w' => e = .returned (.int .i64 ((valN (fun j => strB T (Q + j)) 2 : Nat) : Int)) ∧ w = w') := fun w => by
                  have := l06NumberL (T.extract (Q) (Q + 2)) 2 (cut_size T (Q) 2 (by omega)) (by omega) w
                  rw [valN_congr (h := fun j => strB T (Q + j)) (fun j hj => strB_cut T (Q) 2 j (by omega) hj)] at this
                  exact this
                obtain ⟨A5, hA5⟩ : ∃ C, C = valN (fun j => strB T (Q + j)) 2 := ⟨_, rfl⟩
                rw [← hA5] at NA
                have slNA : ∀ w' : World, (Instr.slice 9 (.string T) (some (.int .i64 ((Q : Int)))) (some (.int .i64 ((Q : Int) + 2))) none).run Tryd.prog w' = .ok (.string (T.extract Q (Q + 2))) w' := fun w' => by
                  have := run_slice_string (P := Tryd.prog) w' 9 T .i64 .i64 ((Q : Int)) ((Q : Int) + 2) Tryd.underlying9 (by omega) (by omega) (by omega)
                  rwa [Int.toNat_natCast, show ((Q : Int) + 2).toNat = Q + 2 from by omega] at this
                have NC : Hid (∀ w : World, Calls Tryd.prog 67 #[.string (T.extract (Q + 2) (Q + 4))] w fun e w' => e = .returned (.int .i64 ((valN (fun j => strB T (Q + 2 + j)) 2 : Nat) : Int)) ∧ w = w') := fun w => by
                  have := l06NumberL (T.extract (Q + 2) (Q + 2 + 2)) 2 (cut_size T (Q + 2) 2 (by omega)) (by omega) w
                  rw [valN_congr (h := fun j => strB T (Q + 2 + j)) (fun j hj => strB_cut T (Q + 2) 2 j (by omega) hj)] at this
                  exact this
                obtain ⟨A6, hA6⟩ : ∃ C, C = valN (fun j => strB T (Q + 2 + j)) 2 := ⟨_, rfl⟩
                rw [← hA6] at NC
                have slNC : ∀ w' : World, (Instr.slice 9 (.string T) (some (.int .i64 ((Q : Int) + 2))) (some (.int .i64 ((Q : Int) + 4))) none).run Tryd.prog w' = .ok (.string (T.extract (Q + 2) (Q + 4))) w' := fun w' => by
                  have := run_slice_string (P := Tryd.prog) w' 9 T .i64 .i64 ((Q : Int) + 2) ((Q : Int) + 4) Tryd.underlying9 (by omega) (by omega) (by omega)
                  rwa [show ((Q : Int) + 2).toNat = Q + 2 from by omega, show ((Q : Int) + 4).toNat = Q + 4 from by omega] at this
                have ND : Hid (∀ w : World, Calls Tryd.prog 67 #[.string (T.extract (Q + 5) (Q + 9))] w fun e w' => e = .returned (.int .i64 ((valN (fun j => strB T (Q + 5 + j)) 4 : Nat) : Int)) ∧ w = w') := fun w => by
                  have := l06NumberL (T.extract (Q + 5) (Q + 5 + 4)) 4 (cut_size T (Q + 5) 4 (by omega)) (by omega) w
                  rw [valN_congr (h := fun j => strB T (Q + 5 + j)) (fun j hj => strB_cut T (Q + 5) 4 j (by omega) hj)] at this
                  exact this
                obtain ⟨A8, hA8⟩ : ∃ C, C = valN (fun j => strB T (Q + 5 + j)) 4 := ⟨_, rfl⟩
                rw [← hA8] at ND
                have slND : ∀ w' : World, (Instr.slice 9 (.string T) (some (.int .i64 ((Q : Int) + 5))) (some (.int .i64 ((Q : Int) + 9))) none).run Tryd.prog w' = .ok (.string (T.extract (Q + 5) (Q + 9))) w' := fun w' => by
                  have := run_slice_string (P := Tryd.prog) w' 9 T .i64 .i64 ((Q : Int) + 5) ((Q : Int) + 9) Tryd.underlying9 (by omega) (by omega) (by omega)
                  rwa [show ((Q : Int) + 5).toNat = Q + 5 from by omega, show ((Q : Int) + 9).toNat = Q + 9 from by omega] at this
                obtain ⟨A7, hA7⟩ : ∃ V, V = strB T (Q + 4) := ⟨_, rfl⟩
                have XR : Hid ((⟨(A5 : Int), (A6 : Int), (A7 : Int), (A8 : Int)⟩ : Se) = pSeO (strB T) (P + 1) m) := by
                  show _ = _
                  unfold pSeO
                  rw [hA5, hA6, hA7, hA8, hQ]
                  simp [valN]
                rw [← hA7] at es hl4
                have wV : IntKind.i64.wrap (A7 : Int) = (A7 : Int) := IntWalk.i64_in _ (by omega)
                clear hA5 hA6 hA7 hA8 hQ hJ
                have NB0x : Hid (∀ g, v0.ownBlock = some g → g ≠ w.heap.size + 1 + 1 + 1) := NB0.out
                go_wp2_with fail
                have H : True := trivial
                have hbd : Below wr.heap.size wr wr.drew := (Below.refl _ _).drew
                replace X0 : Hid (Box2 wr.drew w.heap.size 46 (.slice none 0 0) (.slice none 0 0)) := X0.out.below hbd
                replace BV : Hid (Box2 wr.drew (w.heap.size + 1 + 1 + 1) 46 v0 v1) := BV.out.below hbd
                replace RV : Hid (EO wr.drew (w.heap.size + 1) 54 3 v0 k (rgF (pRg (strB T)))) := RV.out.below hbd
                replace SV : Hid (EO wr.drew (w.heap.size + 1) 100 4 v1 m (seF (pSeO (strB T) (P + 1)))) := SV.out.below hbd
                replace NB0 : Hid (∀ g, v0.ownBlock = some g → g ≠ w.heap.size + 1 + 1 + 1) := NB0.out
                replace NB1 : Hid (∀ g, v1.ownBlock = some g → g ≠ w.heap.size + 1 + 1 + 1) := NB1.out
                replace AP : Hid (∀ g, v0.ownBlock = some g → v1.ownBlock ≠ some g) := AP.out
                replace SZ : Hid (w.heap.size + 1 + 1 + 1 + 1 ≤ wr.drew.heap.size) := Nat.le_trans SZ.out hbd.size
                replace AB : Hid (Below w.heap.size w wr.drew) := AB.out.trans (hbd.mono AB.out.size)
                refine wp_region_noPanic ?_
                refine wp_region_held_drew (S := fun _ => True) (by kernel_rfl) H (fun _ => ?_)
                clear hbd
                generalize wr.drew = y0 at *
                refine wpAnyH_take (i := 0) (v := .pointer (some ⟨w.heap.size + 1 + 1 + 1, 1, none⟩)) rfl (by kernel_rfl) (by kernel_rfl) (by kernel_rfl) (fun _ _ _ h => h) (Or.inl ⟨by rfl, ?_⟩) H ?_
                · intro w' hSw; clear hSw; go_simp
                change wpAnyH _ _ _ _ _ _ _ { tmps := #[_,_,_,_,_,_,_,_,_,_,_,_,_,_,_,_,_,_,_,_,_,_,_,_,_,_,_,_,_,_,_,_,_,_,_,_,_,_,_,_,_,_,_,_,_,_,_,_,_,_,_,_,_,_,_,_,_,_,_,_,_,_,_,_,_,_,_,_,_,_,_,_,_,_,_,_,_,_,_,_,_,_,_,_,_,_,_,_,_,_,_,_,_,_,_,_,_,_,_,_,_,_,_,_,_,_,_,_,_,_,_,_,_,_,_,_,_,_,_,_,_,_,_,_,_,_,_,_,_,_], defers := _ } _
                refine wpAnyH_take (i := 2) (v := .string T) rfl (by kernel_rfl) (by kernel_rfl) (by kernel_rfl) (fun _ _ _ h => h) (Or.inl ⟨by rfl, ?_⟩) H ?_
                · intro w' hSw; clear hSw; go_simp
                change wpAnyH _ _ _ _ _ _ _ { tmps := #[_,_,_,_,_,_,_,_,_,_,_,_,_,_,_,_,_,_,_,_,_,_,_,_,_,_,_,_,_,_,_,_,_,_,_,_,_,_,_,_,_,_,_,_,_,_,_,_,_,_,_,_,_,_,_,_,_,_,_,_,_,_,_,_,_,_,_,_,_,_,_,_,_,_,_,_,_,_,_,_,_,_,_,_,_,_,_,_,_,_,_,_,_,_,_,_,_,_,_,_,_,_,_,_,_,_,_,_,_,_,_,_,_,_,_,_,_,_,_,_,_,_,_,_,_,_,_,_,_,_], defers := _ } _
                refine wpAnyH_take (i := 3) (v := .int .i64 (Q : Int)) rfl (by kernel_rfl) (by kernel_rfl) (by kernel_rfl) (fun _ _ _ h => h) (Or.inl ⟨by rfl, ?_⟩) H ?_
                · intro w' hSw; clear hSw; go_simp
                change wpAnyH _ _ _ _ _ _ _ { tmps := #[_,_,_,_,_,_,_,_,_,_,_,_,_,_,_,_,_,_,_,_,_,_,_,_,_,_,_,_,_,_,_,_,_,_,_,_,_,_,_,_,_,_,_,_,_,_,_,_,_,_,_,_,_,_,_,_,_,_,_,_,_,_,_,_,_,_,_,_,_,_,_,_,_,_,_,_,_,_,_,_,_,_,_,_,_,_,_,_,_,_,_,_,_,_,_,_,_,_,_,_,_,_,_,_,_,_,_,_,_,_,_,_,_,_,_,_,_,_,_,_,_,_,_,_,_,_,_,_,_,_], defers := _ } _
                refine wpAnyH_take (i := 4) (v := .int .i64 (Q : Int)) rfl (by kernel_rfl) (by kernel_rfl) (by kernel_rfl) (fun _ _ _ h => h) (Or.inl ⟨by rfl, ?_⟩) H ?_
                · intro w' hSw; clear hSw; go_simp
                change wpAnyH _ _ _ _ _ _ _ { tmps := #[_,_,_,_,_,_,_,_,_,_,_,_,_,_,_,_,_,_,_,_,_,_,_,_,_,_,_,_,_,_,_,_,_,_,_,_,_,_,_,_,_,_,_,_,_,_,_,_,_,_,_,_,_,_,_,_,_,_,_,_,_,_,_,_,_,_,_,_,_,_,_,_,_,_,_,_,_,_,_,_,_,_,_,_,_,_,_,_,_,_,_,_,_,_,_,_,_,_,_,_,_,_,_,_,_,_,_,_,_,_,_,_,_,_,_,_,_,_,_,_,_,_,_,_,_,_,_,_,_,_], defers := _ } _
                refine wpAnyH_take (i := 5) (v := .int .i64 ((Q + 2 : Nat) : Int)) rfl (by kernel_rfl) (by kernel_rfl) (by kernel_rfl) (fun _ _ _ h => h) (Or.inl ⟨by rfl, ?_⟩) H ?_
                · intro w' hSw; clear hSw; go_simp
                change wpAnyH _ _ _ _ _ _ _ { tmps := #[_,_,_,_,_,_,_,_,_,_,_,_,_,_,_,_,_,_,_,_,_,_,_,_,_,_,_,_,_,_,_,_,_,_,_,_,_,_,_,_,_,_,_,_,_,_,_,_,_,_,_,_,_,_,_,_,_,_,_,_,_,_,_,_,_,_,_,_,_,_,_,_,_,_,_,_,_,_,_,_,_,_,_,_,_,_,_,_,_,_,_,_,_,_,_,_,_,_,_,_,_,_,_,_,_,_,_,_,_,_,_,_,_,_,_,_,_,_,_,_,_,_,_,_,_,_,_,_,_,_], defers := _ } _
                refine wpAnyH_take (i := 6) (v := .string (T.extract Q (Q + 2))) rfl (by kernel_rfl) (by kernel_rfl) (by kernel_rfl) (fun _ _ _ h => h) (Or.inl ⟨by rfl, ?_⟩) H ?_
                · intro w' hSw; clear hSw; go_simp
                change wpAnyH _ _ _ _ _ _ _ { tmps := #[_,_,_,_,_,_,_,_,_,_,_,_,_,_,_,_,_,_,_,_,_,_,_,_,_,_,_,_,_,_,_,_,_,_,_,_,_,_,_,_,_,_,_,_,_,_,_,_,_,_,_,_,_,_,_,_,_,_,_,_,_,_,_,_,_,_,_,_,_,_,_,_,_,_,_,_,_,_,_,_,_,_,_,_,_,_,_,_,_,_,_,_,_,_,_,_,_,_,_,_,_,_,_,_,_,_,_,_,_,_,_,_,_,_,_,_,_,_,_,_,_,_,_,_,_,_,_,_,_,_], defers := _ } _
                refine wpAnyH_take (i := 8) (v := .string T) rfl (by kernel_rfl) (by kernel_rfl) (by kernel_rfl) (fun _ _ _ h => h) (Or.inl ⟨by rfl, ?_⟩) H ?_
                · intro w' hSw; clear hSw; go_simp
                change wpAnyH _ _ _ _ _ _ _ { tmps := #[_,_,_,_,_,_,_,_,_,_,_,_,_,_,_,_,_,_,_,_,_,_,_,_,_,_,_,_,_,_,_,_,_,_,_,_,_,_,_,_,_,_,_,_,_,_,_,_,_,_,_,_,_,_,_,_,_,_,_,_,_,_,_,_,_,_,_,_,_,_,_,_,_,_,_,_,_,_,_,_,_,_,_,_,_,_,_,_,_,_,_,_,_,_,_,_,_,_,_,_,_,_,_,_,_,_,_,_,_,_,_,_,_,_,_,_,_,_,_,_,_,_,_,_,_,_,_,_,_,_], defers := _ } _
                refine wpAnyH_take (i := 9) (v := .int .i64 (Q : Int)) rfl (by kernel_rfl) (by kernel_rfl) (by kernel_rfl) (fun _ _ _ h => h) (Or.inl ⟨by rfl, ?_⟩) H ?_
                · intro w' hSw; clear hSw; go_simp
                change wpAnyH _ _ _ _ _ _ _ { tmps := #[_,_,_,_,_,_,_,_,_,_,_,_,_,_,_,_,_,_,_,_,_,_,_,_,_,_,_,_,_,_,_,_,_,_,_,_,_,_,_,_,_,_,_,_,_,_,_,_,_,_,_,_,_,_,_,_,_,_,_,_,_,_,_,_,_,_,_,_,_,_,_,_,_,_,_,_,_,_,_,_,_,_,_,_,_,_,_,_,_,_,_,_,_,_,_,_,_,_,_,_,_,_,_,_,_,_,_,_,_,_,_,_,_,_,_,_,_,_,_,_,_,_,_,_,_,_,_,_,_,_], defers := _ } _
                refine wpAnyH_take (i := 10) (v := .int .i64 ((Q + 2 : Nat) : Int)) rfl (by kernel_rfl) (by kernel_rfl) (by kernel_rfl) (fun _ _ _ h => h) (Or.inl ⟨by rfl, ?_⟩) H ?_
                · intro w' hSw; clear hSw; go_simp
                change wpAnyH _ _ _ _ _ _ _ { tmps := #[_,_,_,_,_,_,_,_,_,_,_,_,_,_,_,_,_,_,_,_,_,_,_,_,_,_,_,_,_,_,_,_,_,_,_,_,_,_,_,_,_,_,_,_,_,_,_,_,_,_,_,_,_,_,_,_,_,_,_,_,_,_,_,_,_,_,_,_,_,_,_,_,_,_,_,_,_,_,_,_,_,_,_,_,_,_,_,_,_,_,_,_,_,_,_,_,_,_,_,_,_,_,_,_,_,_,_,_,_,_,_,_,_,_,_,_,_,_,_,_,_,_,_,_,_,_,_,_,_,_], defers := _ } _
                refine wpAnyH_take (i := 11) (v := .int .i64 (Q : Int)) rfl (by kernel_rfl) (by kernel_rfl) (by kernel_rfl) (fun _ _ _ h => h) (Or.inl ⟨by rfl, ?_⟩) H ?_
                · intro w' hSw; clear hSw; go_simp
                change wpAnyH _ _ _ _ _ _ _ { tmps := #[_,_,_,_,_,_,_,_,_,_,_,_,_,_,_,_,_,_,_,_,_,_,_,_,_,_,_,_,_,_,_,_,_,_,_,_,_,_,_,_,_,_,_,_,_,_,_,_,_,_,_,_,_,_,_,_,_,_,_,_,_,_,_,_,_,_,_,_,_,_,_,_,_,_,_,_,_,_,_,_,_,_,_,_,_,_,_,_,_,_,_,_,_,_,_,_,_,_,_,_,_,_,_,_,_,_,_,_,_,_,_,_,_,_,_,_,_,_,_,_,_,_,_,_,_,_,_,_,_,_], defers := _ } _
                refine wpAnyH_take (i := 12) (v := .int .i64 ((Q + 4 : Nat) : Int)) rfl (by kernel_rfl) (by kernel_rfl) (by kernel_rfl) (fun _ _ _ h => h) (Or.inl ⟨by rfl, ?_⟩) H ?_
                · intro w' hSw; clear hSw; go_simp
                change wpAnyH _ _ _ _ _ _ _ { tmps := #[_,_,_,_,_,_,_,_,_,_,_,_,_,_,_,_,_,_,_,_,_,_,_,_,_,_,_,_,_,_,_,_,_,_,_,_,_,_,_,_,_,_,_,_,_,_,_,_,_,_,_,_,_,_,_,_,_,_,_,_,_,_,_,_,_,_,_,_,_,_,_,_,_,_,_,_,_,_,_,_,_,_,_,_,_,_,_,_,_,_,_,_,_,_,_,_,_,_,_,_,_,_,_,_,_,_,_,_,_,_,_,_,_,_,_,_,_,_,_,_,_,_,_,_,_,_,_,_,_,_], defers := _ } _
                refine wpAnyH_take (i := 13) (v := .string (T.extract (Q + 2) (Q + 4))) rfl (by kernel_rfl) (by kernel_rfl) (by kernel_rfl) (fun _ _ _ h => h) (Or.inl ⟨by rfl, ?_⟩) H ?_
                · intro w' hSw; clear hSw; go_simp
                change wpAnyH _ _ _ _ _ _ _ { tmps := #[_,_,_,_,_,_,_,_,_,_,_,_,_,_,_,_,_,_,_,_,_,_,_,_,_,_,_,_,_,_,_,_,_,_,_,_,_,_,_,_,_,_,_,_,_,_,_,_,_,_,_,_,_,_,_,_,_,_,_,_,_,_,_,_,_,_,_,_,_,_,_,_,_,_,_,_,_,_,_,_,_,_,_,_,_,_,_,_,_,_,_,_,_,_,_,_,_,_,_,_,_,_,_,_,_,_,_,_,_,_,_,_,_,_,_,_,_,_,_,_,_,_,_,_,_,_,_,_,_,_], defers := _ } _
                refine wpAnyH_take (i := 15) (v := .string T) rfl (by kernel_rfl) (by kernel_rfl) (by kernel_rfl) (fun _ _ _ h => h) (Or.inl ⟨by rfl, ?_⟩) H ?_
                · intro w' hSw; clear hSw; go_simp
                change wpAnyH _ _ _ _ _ _ _ { tmps := #[_,_,_,_,_,_,_,_,_,_,_,_,_,_,_,_,_,_,_,_,_,_,_,_,_,_,_,_,_,_,_,_,_,_,_,_,_,_,_,_,_,_,_,_,_,_,_,_,_,_,_,_,_,_,_,_,_,_,_,_,_,_,_,_,_,_,_,_,_,_,_,_,_,_,_,_,_,_,_,_,_,_,_,_,_,_,_,_,_,_,_,_,_,_,_,_,_,_,_,_,_,_,_,_,_,_,_,_,_,_,_,_,_,_,_,_,_,_,_,_,_,_,_,_,_,_,_,_,_,_], defers := _ } _
                refine wpAnyH_take (i := 16) (v := .int .i64 (Q : Int)) rfl (by kernel_rfl) (by kernel_rfl) (by kernel_rfl) (fun _ _ _ h => h) (Or.inl ⟨by rfl, ?_⟩) H ?_
                · intro w' hSw; clear hSw; go_simp
                change wpAnyH _ _ _ _ _ _ _ { tmps := #[_,_,_,_,_,_,_,_,_,_,_,_,_,_,_,_,_,_,_,_,_,_,_,_,_,_,_,_,_,_,_,_,_,_,_,_,_,_,_,_,_,_,_,_,_,_,_,_,_,_,_,_,_,_,_,_,_,_,_,_,_,_,_,_,_,_,_,_,_,_,_,_,_,_,_,_,_,_,_,_,_,_,_,_,_,_,_,_,_,_,_,_,_,_,_,_,_,_,_,_,_,_,_,_,_,_,_,_,_,_,_,_,_,_,_,_,_,_,_,_,_,_,_,_,_,_,_,_,_,_], defers := _ } _
                refine wpAnyH_take (i := 17) (v := .int .i64 ((Q + 4 : Nat) : Int)) rfl (by kernel_rfl) (by kernel_rfl) (by kernel_rfl) (fun _ _ _ h => h) (Or.inl ⟨by rfl, ?_⟩) H ?_
                · intro w' hSw; clear hSw; go_simp
                change wpAnyH _ _ _ _ _ _ _ { tmps := #[_,_,_,_,_,_,_,_,_,_,_,_,_,_,_,_,_,_,_,_,_,_,_,_,_,_,_,_,_,_,_,_,_,_,_,_,_,_,_,_,_,_,_,_,_,_,_,_,_,_,_,_,_,_,_,_,_,_,_,_,_,_,_,_,_,_,_,_,_,_,_,_,_,_,_,_,_,_,_,_,_,_,_,_,_,_,_,_,_,_,_,_,_,_,_,_,_,_,_,_,_,_,_,_,_,_,_,_,_,_,_,_,_,_,_,_,_,_,_,_,_,_,_,_,_,_,_,_,_,_], defers := _ } _
                refine wpAnyH_take (i := 18) (v := .int .u8 (A7 : Int)) rfl (by kernel_rfl) (by kernel_rfl) (by kernel_rfl) (fun _ _ _ h => h) (Or.inl ⟨by rfl, ?_⟩) H ?_
                · intro w' hSw; clear hSw; go_simp
                change wpAnyH _ _ _ _ _ _ _ { tmps := #[_,_,_,_,_,_,_,_,_,_,_,_,_,_,_,_,_,_,_,_,_,_,_,_,_,_,_,_,_,_,_,_,_,_,_,_,_,_,_,_,_,_,_,_,_,_,_,_,_,_,_,_,_,_,_,_,_,_,_,_,_,_,_,_,_,_,_,_,_,_,_,_,_,_,_,_,_,_,_,_,_,_,_,_,_,_,_,_,_,_,_,_,_,_,_,_,_,_,_,_,_,_,_,_,_,_,_,_,_,_,_,_,_,_,_,_,_,_,_,_,_,_,_,_,_,_,_,_,_,_], defers := _ } _
                refine wpAnyH_take (i := 19) (v := .int .i64 (A7 : Int)) rfl (by kernel_rfl) (by kernel_rfl) (by kernel_rfl) (fun _ _ _ h => h) (Or.inl ⟨by rfl, ?_⟩) H ?_
                · intro w' hSw; clear hSw; go_simp
                change wpAnyH _ _ _ _ _ _ _ { tmps := #[_,_,_,_,_,_,_,_,_,_,_,_,_,_,_,_,_,_,_,_,_,_,_,_,_,_,_,_,_,_,_,_,_,_,_,_,_,_,_,_,_,_,_,_,_,_,_,_,_,_,_,_,_,_,_,_,_,_,_,_,_,_,_,_,_,_,_,_,_,_,_,_,_,_,_,_,_,_,_,_,_,_,_,_,_,_,_,_,_,_,_,_,_,_,_,_,_,_,_,_,_,_,_,_,_,_,_,_,_,_,_,_,_,_,_,_,_,_,_,_,_,_,_,_,_,_,_,_,_,_], defers := _ } _
                refine wpAnyH_take (i := 20) (v := .string T) rfl (by kernel_rfl) (by kernel_rfl) (by kernel_rfl) (fun _ _ _ h => h) (Or.inl ⟨by rfl, ?_⟩) H ?_
                · intro w' hSw; clear hSw; go_simp
                change wpAnyH _ _ _ _ _ _ _ { tmps := #[_,_,_,_,_,_,_,_,_,_,_,_,_,_,_,_,_,_,_,_,_,_,_,_,_,_,_,_,_,_,_,_,_,_,_,_,_,_,_,_,_,_,_,_,_,_,_,_,_,_,_,_,_,_,_,_,_,_,_,_,_,_,_,_,_,_,_,_,_,_,_,_,_,_,_,_,_,_,_,_,_,_,_,_,_,_,_,_,_,_,_,_,_,_,_,_,_,_,_,_,_,_,_,_,_,_,_,_,_,_,_,_,_,_,_,_,_,_,_,_,_,_,_,_,_,_,_,_,_,_], defers := _ } _
                refine wpAnyH_take (i := 21) (v := .int .i64 (Q : Int)) rfl (by kernel_rfl) (by kernel_rfl) (by kernel_rfl) (fun _ _ _ h => h) (Or.inl ⟨by rfl, ?_⟩) H ?_
                · intro w' hSw; clear hSw; go_simp
                change wpAnyH _ _ _ _ _ _ _ { tmps := #[_,_,_,_,_,_,_,_,_,_,_,_,_,_,_,_,_,_,_,_,_,_,_,_,_,_,_,_,_,_,_,_,_,_,_,_,_,_,_,_,_,_,_,_,_,_,_,_,_,_,_,_,_,_,_,_,_,_,_,_,_,_,_,_,_,_,_,_,_,_,_,_,_,_,_,_,_,_,_,_,_,_,_,_,_,_,_,_,_,_,_,_,_,_,_,_,_,_,_,_,_,_,_,_,_,_,_,_,_,_,_,_,_,_,_,_,_,_,_,_,_,_,_,_,_,_,_,_,_,_], defers := _ } _
                refine wpAnyH_take (i := 22) (v := .int .i64 ((Q + 5 : Nat) : Int)) rfl (by kernel_rfl) (by kernel_rfl) (by kernel_rfl) (fun _ _ _ h => h) (Or.inl ⟨by rfl, ?_⟩) H ?_
                · intro w' hSw; clear hSw; go_simp
                change wpAnyH _ _ _ _ _ _ _ { tmps := #[_,_,_,_,_,_,_,_,_,_,_,_,_,_,_,_,_,_,_,_,_,_,_,_,_,_,_,_,_,_,_,_,_,_,_,_,_,_,_,_,_,_,_,_,_,_,_,_,_,_,_,_,_,_,_,_,_,_,_,_,_,_,_,_,_,_,_,_,_,_,_,_,_,_,_,_,_,_,_,_,_,_,_,_,_,_,_,_,_,_,_,_,_,_,_,_,_,_,_,_,_,_,_,_,_,_,_,_,_,_,_,_,_,_,_,_,_,_,_,_,_,_,_,_,_,_,_,_,_,_], defers := _ } _
                refine wpAnyH_take (i := 23) (v := .int .i64 (Q : Int)) rfl (by kernel_rfl) (by kernel_rfl) (by kernel_rfl) (fun _ _ _ h => h) (Or.inl ⟨by rfl, ?_⟩) H ?_
                · intro w' hSw; clear hSw; go_simp
                change wpAnyH _ _ _ _ _ _ _ { tmps := #[_,_,_,_,_,_,_,_,_,_,_,_,_,_,_,_,_,_,_,_,_,_,_,_,_,_,_,_,_,_,_,_,_,_,_,_,_,_,_,_,_,_,_,_,_,_,_,_,_,_,_,_,_,_,_,_,_,_,_,_,_,_,_,_,_,_,_,_,_,_,_,_,_,_,_,_,_,_,_,_,_,_,_,_,_,_,_,_,_,_,_,_,_,_,_,_,_,_,_,_,_,_,_,_,_,_,_,_,_,_,_,_,_,_,_,_,_,_,_,_,_,_,_,_,_,_,_,_,_,_], defers := _ } _
                refine wpAnyH_take (i := 24) (v := .int .i64 ((Q + 9 : Nat) : Int)) rfl (by kernel_rfl) (by kernel_rfl) (by kernel_rfl) (fun _ _ _ h => h) (Or.inl ⟨by rfl, ?_⟩) H ?_
                · intro w' hSw; clear hSw; go_simp
                change wpAnyH _ _ _ _ _ _ _ { tmps := #[_,_,_,_,_,_,_,_,_,_,_,_,_,_,_,_,_,_,_,_,_,_,_,_,_,_,_,_,_,_,_,_,_,_,_,_,_,_,_,_,_,_,_,_,_,_,_,_,_,_,_,_,_,_,_,_,_,_,_,_,_,_,_,_,_,_,_,_,_,_,_,_,_,_,_,_,_,_,_,_,_,_,_,_,_,_,_,_,_,_,_,_,_,_,_,_,_,_,_,_,_,_,_,_,_,_,_,_,_,_,_,_,_,_,_,_,_,_,_,_,_,_,_,_,_,_,_,_,_,_], defers := _ } _
                refine wpAnyH_take (i := 25) (v := .string (T.extract (Q + 5) (Q + 9))) rfl (by kernel_rfl) (by kernel_rfl) (by kernel_rfl) (fun _ _ _ h => h) (Or.inl ⟨by rfl, ?_⟩) H ?_
                · intro w' hSw; clear hSw; go_simp
                change wpAnyH _ _ _ _ _ _ _ { tmps := #[_,_,_,_,_,_,_,_,_,_,_,_,_,_,_,_,_,_,_,_,_,_,_,_,_,_,_,_,_,_,_,_,_,_,_,_,_,_,_,_,_,_,_,_,_,_,_,_,_,_,_,_,_,_,_,_,_,_,_,_,_,_,_,_,_,_,_,_,_,_,_,_,_,_,_,_,_,_,_,_,_,_,_,_,_,_,_,_,_,_,_,_,_,_,_,_,_,_,_,_,_,_,_,_,_,_,_,_,_,_,_,_,_,_,_,_,_,_,_,_,_,_,_,_,_,_,_,_,_,_], defers := _ } _
                refine wpAnyH_ready (rs := [1, 7]) (by kernel_rfl) (by simp) ?_
                refine (AllReadyH.cons rfl (fun KK hK => ?_) (AllReadyH.cons rfl (fun KK hK => ?_) AllReadyH.nil))
                · skip
                  have lb := BV.out.c1
                  go_simp
                  refine hK.out _ _ H (fun _ => ?_)
                  clear hK KK lb
                  change wpAnyH _ _ _ _ _ _ _ { tmps := #[_,_,_,_,_,_,_,_,_,_,_,_,_,_,_,_,_,_,_,_,_,_,_,_,_,_,_,_,_,_,_,_,_,_,_,_,_,_,_,_,_,_,_,_,_,_,_,_,_,_,_,_,_,_,_,_,_,_,_,_,_,_,_,_,_,_,_,_,_,_,_,_,_,_,_,_,_,_,_,_,_,_,_,_,_,_,_,_,_,_,_,_,_,_,_,_,_,_,_,_,_,_,_,_,_,_,_,_,_,_,_,_,_,_,_,_,_,_,_,_,_,_,_,_,_,_,_,_,_,_], defers := _ } _
                  refine wpAnyH_ready (rs := [7]) (by kernel_rfl) (by simp) ?_
                  refine (AllReadyH.cons rfl (fun KK hK => ?_) AllReadyH.nil)
                  go_simp
                  refine (NA.out _).mono ?_
                  rintro e _ ⟨rfl, rfl⟩
                  refine hK.out _ _ H (fun _ => ?_)
                  clear hK KK
                  change wpAnyH _ _ _ _ _ _ _ { tmps := #[_,_,_,_,_,_,_,_,_,_,_,_,_,_,_,_,_,_,_,_,_,_,_,_,_,_,_,_,_,_,_,_,_,_,_,_,_,_,_,_,_,_,_,_,_,_,_,_,_,_,_,_,_,_,_,_,_,_,_,_,_,_,_,_,_,_,_,_,_,_,_,_,_,_,_,_,_,_,_,_,_,_,_,_,_,_,_,_,_,_,_,_,_,_,_,_,_,_,_,_,_,_,_,_,_,_,_,_,_,_,_,_,_,_,_,_,_,_,_,_,_,_,_,_,_,_,_,_,_,_], defers := _ } _
                  refine wpAnyH_ready (rs := [14]) (by kernel_rfl) (by simp) ?_
                  refine (AllReadyH.cons rfl (fun KK hK => ?_) AllReadyH.nil)
                  go_simp
                  refine (NC.out _).mono ?_
                  rintro e _ ⟨rfl, rfl⟩
                  refine hK.out _ _ H (fun _ => ?_)
                  clear hK KK
                  change wpAnyH _ _ _ _ _ _ _ { tmps := #[_,_,_,_,_,_,_,_,_,_,_,_,_,_,_,_,_,_,_,_,_,_,_,_,_,_,_,_,_,_,_,_,_,_,_,_,_,_,_,_,_,_,_,_,_,_,_,_,_,_,_,_,_,_,_,_,_,_,_,_,_,_,_,_,_,_,_,_,_,_,_,_,_,_,_,_,_,_,_,_,_,_,_,_,_,_,_,_,_,_,_,_,_,_,_,_,_,_,_,_,_,_,_,_,_,_,_,_,_,_,_,_,_,_,_,_,_,_,_,_,_,_,_,_,_,_,_,_,_,_], defers := _ } _
                  refine wpAnyH_ready (rs := [26]) (by kernel_rfl) (by simp) ?_
                  refine (AllReadyH.cons rfl (fun KK hK => ?_) AllReadyH.nil)
                  go_simp
                  refine (ND.out _).mono ?_
                  rintro e _ ⟨rfl, rfl⟩
                  refine hK.out _ _ H (fun _ => ?_)
                  clear hK KK
                  change wpAnyH _ _ _ _ _ _ _ { tmps := #[_,_,_,_,_,_,_,_,_,_,_,_,_,_,_,_,_,_,_,_,_,_,_,_,_,_,_,_,_,_,_,_,_,_,_,_,_,_,_,_,_,_,_,_,_,_,_,_,_,_,_,_,_,_,_,_,_,_,_,_,_,_,_,_,_,_,_,_,_,_,_,_,_,_,_,_,_,_,_,_,_,_,_,_,_,_,_,_,_,_,_,_,_,_,_,_,_,_,_,_,_,_,_,_,_,_,_,_,_,_,_,_,_,_,_,_,_,_,_,_,_,_,_,_,_,_,_,_,_,_], defers := _ } _
                  refine wpAnyH_take (i := 27) (v := .agg #[.int .i64 (A5 : Int), .int .i64 (A6 : Int), .int .i64 (A7 : Int), .int .i64 (A8 : Int)]) rfl (by kernel_rfl) (by kernel_rfl) (by kernel_rfl) (fun _ _ _ h => h) (Or.inl ⟨by rfl, ?_⟩) H ?_
                  · intro w' hSw; clear hSw; go_simp
                  change wpAnyH _ _ _ _ _ _ _ { tmps := #[_,_,_,_,_,_,_,_,_,_,_,_,_,_,_,_,_,_,_,_,_,_,_,_,_,_,_,_,_,_,_,_,_,_,_,_,_,_,_,_,_,_,_,_,_,_,_,_,_,_,_,_,_,_,_,_,_,_,_,_,_,_,_,_,_,_,_,_,_,_,_,_,_,_,_,_,_,_,_,_,_,_,_,_,_,_,_,_,_,_,_,_,_,_,_,_,_,_,_,_,_,_,_,_,_,_,_,_,_,_,_,_,_,_,_,_,_,_,_,_,_,_,_,_,_,_,_,_,_,_], defers := _ } _
                  refine wpAnyH_ready (rs := [28]) (by kernel_rfl) (by simp) ?_
                  refine (AllReadyH.cons rfl (fun KK hK => ?_) AllReadyH.nil)
                  go_simp
                  refine hK.out _ _ H (fun _ => ?_)
                  clear hK KK
                  change wpAnyH _ _ _ _ _ _ _ { tmps := #[_,_,_,_,_,_,_,_,_,_,_,_,_,_,_,_,_,_,_,_,_,_,_,_,_,_,_,_,_,_,_,_,_,_,_,_,_,_,_,_,_,_,_,_,_,_,_,_,_,_,_,_,_,_,_,_,_,_,_,_,_,_,_,_,_,_,_,_,_,_,_,_,_,_,_,_,_,_,_,_,_,_,_,_,_,_,_,_,_,_,_,_,_,_,_,_,_,_,_,_,_,_,_,_,_,_,_,_,_,_,_,_,_,_,_,_,_,_,_,_,_,_,_,_,_,_,_,_,_,_], defers := _ } _
                  have hb1 : Below y0.heap.size y0 (y0.alloc (.cells #[.int .i64 (A5 : Int), .int .i64 (A6 : Int), .int .i64 (A7 : Int), .int .i64 (A8 : Int)] 100)) := (Below.refl _ _).alloc (Nat.le_refl _) _
                  have lc : ∀ j, j < 4 → (y0.alloc (.cells #[.int .i64 (A5 : Int), .int .i64 (A6 : Int), .int .i64 (A7 : Int), .int .i64 (A8 : Int)] 100)).cell? ⟨y0.heap.size, 0 + j, none⟩ = some (seV (⟨(A5 : Int), (A6 : Int), (A7 : Int), (A8 : Int)⟩ : Se) j) := litCells (w := y0) (t := 100) (cs := #[.int .i64 (A5 : Int), .int .i64 (A6 : Int), .int .i64 (A7 : Int), .int .i64 (A8 : Int)]) (m := 4) (seV (⟨(A5 : Int), (A6 : Int), (A7 : Int), (A8 : Int)⟩ : Se)) rfl (fun i hi => by rcases (show i = 0 ∨ i = 1 ∨ i = 2 ∨ i = 3 by omega) with rfl | rfl | rfl | rfl <;> rfl)
                  have szu := SZ.out
                  obtain ⟨nv, w5, hr5, hE5, hg5, hl5⟩ := appSe (y0.alloc (.cells #[.int .i64 (A5 : Int), .int .i64 (A6 : Int), .int .i64 (A7 : Int), .int .i64 (A8 : Int)] 100)) (w.heap.size + 1) v1 m y0.heap.size (pSeO (strB T) (P + 1)) (⟨(A5 : Int), (A6 : Int), (A7 : Int), (A8 : Int)⟩ : Se) (by simp; omega) (by omega) (SV.out.below hb1) lc
                  obtain ⟨na, nc, rfl⟩ := hE5.form
                  refine wpAnyH_ready (rs := [29]) (by kernel_rfl) (by simp) ?_
                  refine AllReadyH.cons rfl (fun KK hK => ?_) AllReadyH.nil
                  rw [if_pos (by rfl)]
                  refine Lib.wp_append_run _ (.tmp 86) (.tmp 113) 44 44 rfl v1 (.slice (some ⟨y0.heap.size, 0, none⟩) 1 1) rfl rfl _ _ (hr5 _) ?_
                  refine hK.out _ _ H (fun _ => ?_)
                  clear hK KK
                  change wpAnyH _ _ _ _ _ _ _ { tmps := #[_,_,_,_,_,_,_,_,_,_,_,_,_,_,_,_,_,_,_,_,_,_,_,_,_,_,_,_,_,_,_,_,_,_,_,_,_,_,_,_,_,_,_,_,_,_,_,_,_,_,_,_,_,_,_,_,_,_,_,_,_,_,_,_,_,_,_,_,_,_,_,_,_,_,_,_,_,_,_,_,_,_,_,_,_,_,_,_,_,_,_,_,_,_,_,_,_,_,_,_,_,_,_,_,_,_,_,_,_,_,_,_,_,_,_,_,_,_,_,_,_,_,_,_,_,_,_,_,_,_], defers := _ } _
                  refine wpAnyH_take (i := 30) (v := .pointer (some ⟨w.heap.size + 1 + 1 + 1, 1, none⟩)) rfl (by kernel_rfl) (by kernel_rfl) (by kernel_rfl) (fun _ _ _ h => h) (Or.inl ⟨by rfl, ?_⟩) H ?_
                  · intro w' hSw; clear hSw; go_simp
                  change wpAnyH _ _ _ _ _ _ _ { tmps := #[_,_,_,_,_,_,_,_,_,_,_,_,_,_,_,_,_,_,_,_,_,_,_,_,_,_,_,_,_,_,_,_,_,_,_,_,_,_,_,_,_,_,_,_,_,_,_,_,_,_,_,_,_,_,_,_,_,_,_,_,_,_,_,_,_,_,_,_,_,_,_,_,_,_,_,_,_,_,_,_,_,_,_,_,_,_,_,_,_,_,_,_,_,_,_,_,_,_,_,_,_,_,_,_,_,_,_,_,_,_,_,_,_,_,_,_,_,_,_,_,_,_,_,_,_,_,_,_,_,_], defers := _ } _
                  have ob : ∀ g, v1.ownBlock = some g → w.heap.size + 1 ≤ g ∧ g ≠ w.heap.size + 1 + 1 + 1 := fun g e => ⟨(SV.out.ge g e).1, NB1.out g e⟩
                  have sz2 : (y0.alloc (.cells #[.int .i64 (A5 : Int), .int .i64 (A6 : Int), .int .i64 (A7 : Int), .int .i64 (A8 : Int)] 100)).heap.size = y0.heap.size + 1 := by simp
                  have k5 : ∀ q, q < y0.heap.size → (∀ g, v1.ownBlock = some g → q ≠ g) → w5.heap[q]? = y0.heap[q]? := fun q hq hn => (grown_block hg5 (by rw [sz2]; omega) hn).trans (hb1.block q hq)
                  have BV5 := BV.out.ofBlock (k5 _ (by omega) (fun g e q => (ob g e).2 q.symm))
                  have f5 := BV5.fr 1
                  have c5 := BV5.c1
                  have X6 : Hid (Box2 (w5.setCell ⟨w.heap.size + 1 + 1 + 1, 1, none⟩ (.slice na (m + 1) nc)) w.heap.size 46 (.slice none 0 0) (.slice none 0 0)) := (X0.out.ofBlock (k5 _ (by omega) (fun g e q => by have := (ob g e).1; omega))).other (by simp; omega) _
                  have BV6 : Hid (Box2 (w5.setCell ⟨w.heap.size + 1 + 1 + 1, 1, none⟩ (.slice na (m + 1) nc)) (w.heap.size + 1 + 1 + 1) 46 v0 (.slice na (m + 1) nc)) := BV5.set1 _
                  have nn : ∀ g, (Value.slice na (m + 1) nc).ownBlock = some g → (v1.ownBlock = some g ∨ g = y0.heap.size + 1) := fun g e => by
                    rcases hl5 with q | q
                    · exact .inl (q.symm.trans e)
                    · right; rw [e] at q; rw [sz2] at q; exact Option.some.inj q
                  have N6 : Hid (∀ g, (Value.slice na (m + 1) nc).ownBlock = some g → g ≠ w.heap.size + 1 + 1 + 1) := fun g e => by
                    rcases nn g e with q | q
                    · exact (ob g q).2
                    · omega
                  have E6 : Hid (EO (w5.setCell ⟨w.heap.size + 1 + 1 + 1, 1, none⟩ (.slice na (m + 1) nc)) (w.heap.size + 1) 100 4 (.slice na (m + 1) nc) (m + 1) (seF (pSeO (strB T) (P + 1)))) := (hE5.keep (fun g e => heap_setOther _ _ (N6.out g e))).congr (fun i hi j hj => by unfold seF updE; by_cases q : i = m; rw [if_pos q, XR.out, q]; rw [if_neg q])
                  have O6 : Hid (EO (w5.setCell ⟨w.heap.size + 1 + 1 + 1, 1, none⟩ (.slice na (m + 1) nc)) (w.heap.size + 1) 54 3 v0 k (rgF (pRg (strB T)))) := RV.out.keep (fun g e => (heap_setOther _ _ (NB0.out g e)).trans (k5 g (RV.out.ge g e).2 (fun g2 e2 q => AP.out g e (q ▸ e2))))
                  have A6 : Hid (∀ g, v0.ownBlock = some g → (Value.slice na (m + 1) nc).ownBlock ≠ some g) := fun g e q => by
                    rcases nn g q with z | z
                    · exact AP.out g e z
                    · have := (RV.out.ge g e).2; omega
                  have SZ6 : Hid (w.heap.size + 1 + 1 + 1 + 1 ≤ (w5.setCell ⟨w.heap.size + 1 + 1 + 1, 1, none⟩ (.slice na (m + 1) nc)).heap.size) := by
                    have := hg5.size
                    rw [sz2] at this
                    show _ ≤ _
                    simp
                    omega
                  have AB6 : Hid (Below w.heap.size w (w5.setCell ⟨w.heap.size + 1 + 1 + 1, 1, none⟩ (.slice na (m + 1) nc))) := (AB.out.trans ((hb1.mono AB.out.size).trans (grown_belowE hg5 (by rw [sz2]; omega) (fun g e => by have := (ob g e).1; omega)))).setCell (by simp; omega) _
                  clear hE5 hg5 hl5 k5 BV5 lc hb1 sz2 ob nn
                  refine wpAnyH_ready (rs := [31]) (by kernel_rfl) (by simp) ?_
                  refine AllReadyH.cons rfl (fun KK hK => ?_) AllReadyH.nil
                  go_simp
                  refine hK.out _ _ H (fun _ => ?_)
                  clear hK KK
                  refine wpAnyH_done (by kernel_rfl) ?_ _
                  refine NoPanic.normal ?_
                  clear H X0 BV RV SV NB0 NB1 AP SZ AB hr5 szu f5 c5
                  have E7 : Hid (Q + 9 = P + 1 + 9 * (m + 1)) := by have := HQ.out; show _ = _; omega
                  have E8 : Hid (J - 1 = x4 - (m + 1) ∧ m + 1 ≤ x4) := by have := HJ.out; exact ⟨by omega, by omega⟩
                  have i8 : J ≤ 255 := by have := HJ.out; omega
                  have i9 : IntKind.i64.wrap ((J : Int) - 1) = ((J - 1 : Nat) : Int) := by rw [IntWalk.i64_in _ (by omega)]; omega
                  clear NA NC ND XR es wV slNA slNC slND
                  change Exit.then _ _ Exit.normal { tmps := #[_, _, _, _, _, _, _, _, _, _, _, _, _, _, _, _, _, _, _, _, _, _, _, _, _, _, _, _, _, _, _, _, _, _, _, _, _, _, _, _, _, _, _, _, _, _, _, _, _, _, _, _, _, _, _, _, _, _, _, _, _, _, _, _, _, _, _, _, _, _, _, _, _, _, _, _, _, _, _, _, _, _, _, _, _, _, _, _, _, _, _, _, _, _, _, _, _, _, _, _, _, _, _, _, _, _, _, _, _, _, _, _, _, _, _, _, _, _, _, _, _, _, _, _, _, _, _, _, _, _], defers := _ } _
                  go_wp2
                  go_roundw
                  case rel => exact ⟨m + 1, _, E8.out.2, by have := E7.out; omega, numEq8 (by have := E7.out; omega), numEq8 (by have := E8.out.1; omega), X6.out, BV6.out, O6.out, E6.out, NB0x.out, N6.out, A6.out, SZ6.out, AB6.out⟩
                  case measure => simp [intOf]; omega
                · skip
                  go_simp
                  refine (NA.out _).mono ?_
                  rintro e _ ⟨rfl, rfl⟩
                  refine hK.out _ _ H (fun _ => ?_)
                  clear hK KK
                  change wpAnyH _ _ _ _ _ _ _ { tmps := #[_,_,_,_,_,_,_,_,_,_,_,_,_,_,_,_,_,_,_,_,_,_,_,_,_,_,_,_,_,_,_,_,_,_,_,_,_,_,_,_,_,_,_,_,_,_,_,_,_,_,_,_,_,_,_,_,_,_,_,_,_,_,_,_,_,_,_,_,_,_,_,_,_,_,_,_,_,_,_,_,_,_,_,_,_,_,_,_,_,_,_,_,_,_,_,_,_,_,_,_,_,_,_,_,_,_,_,_,_,_,_,_,_,_,_,_,_,_,_,_,_,_,_,_,_,_,_,_,_,_], defers := _ } _
                  refine wpAnyH_ready (rs := [1, 14]) (by kernel_rfl) (by simp) ?_
                  refine (AllReadyH.cons rfl (fun KK hK => ?_) (AllReadyH.cons rfl (fun KK hK => ?_) AllReadyH.nil))
                  · skip
                    have lb := BV.out.c1
                    go_simp
                    refine hK.out _ _ H (fun _ => ?_)
                    clear hK KK lb
                    change wpAnyH _ _ _ _ _ _ _ { tmps := #[_,_,_,_,_,_,_,_,_,_,_,_,_,_,_,_,_,_,_,_,_,_,_,_,_,_,_,_,_,_,_,_,_,_,_,_,_,_,_,_,_,_,_,_,_,_,_,_,_,_,_,_,_,_,_,_,_,_,_,_,_,_,_,_,_,_,_,_,_,_,_,_,_,_,_,_,_,_,_,_,_,_,_,_,_,_,_,_,_,_,_,_,_,_,_,_,_,_,_,_,_,_,_,_,_,_,_,_,_,_,_,_,_,_,_,_,_,_,_,_,_,_,_,_,_,_,_,_,_,_], defers := _ } _
                    refine wpAnyH_ready (rs := [14]) (by kernel_rfl) (by simp) ?_
                    refine (AllReadyH.cons rfl (fun KK hK => ?_) AllReadyH.nil)
                    go_simp
                    refine (NC.out _).mono ?_
                    rintro e _ ⟨rfl, rfl⟩
                    refine hK.out _ _ H (fun _ => ?_)
                    clear hK KK
                    change wpAnyH _ _ _ _ _ _ _ { tmps := #[_,_,_,_,_,_,_,_,_,_,_,_,_,_,_,_,_,_,_,_,_,_,_,_,_,_,_,_,_,_,_,_,_,_,_,_,_,_,_,_,_,_,_,_,_,_,_,_,_,_,_,_,_,_,_,_,_,_,_,_,_,_,_,_,_,_,_,_,_,_,_,_,_,_,_,_,_,_,_,_,_,_,_,_,_,_,_,_,_,_,_,_,_,_,_,_,_,_,_,_,_,_,_,_,_,_,_,_,_,_,_,_,_,_,_,_,_,_,_,_,_,_,_,_,_,_,_,_,_,_], defers := _ } _
                    refine wpAnyH_ready (rs := [26]) (by kernel_rfl) (by simp) ?_
                    refine (AllReadyH.cons rfl (fun KK hK => ?_) AllReadyH.nil)
                    go_simp
                    refine (ND.out _).mono ?_
                    rintro e _ ⟨rfl, rfl⟩
                    refine hK.out _ _ H (fun _ => ?_)
                    clear hK KK
                    change wpAnyH _ _ _ _ _ _ _ { tmps := #[_,_,_,_,_,_,_,_,_,_,_,_,_,_,_,_,_,_,_,_,_,_,_,_,_,_,_,_,_,_,_,_,_,_,_,_,_,_,_,_,_,_,_,_,_,_,_,_,_,_,_,_,_,_,_,_,_,_,_,_,_,_,_,_,_,_,_,_,_,_,_,_,_,_,_,_,_,_,_,_,_,_,_,_,_,_,_,_,_,_,_,_,_,_,_,_,_,_,_,_,_,_,_,_,_,_,_,_,_,_,_,_,_,_,_,_,_,_,_,_,_,_,_,_,_,_,_,_,_,_], defers := _ } _
                    refine wpAnyH_take (i := 27) (v := .agg #[.int .i64 (A5 : Int), .int .i64 (A6 : Int), .int .i64 (A7 : Int), .int .i64 (A8 : Int)]) rfl (by kernel_rfl) (by kernel_rfl) (by kernel_rfl) (fun _ _ _ h => h) (Or.inl ⟨by rfl, ?_⟩) H ?_
                    · intro w' hSw; clear hSw; go_simp
                    change wpAnyH _ _ _ _ _ _ _ { tmps := #[_,_,_,_,_,_,_,_,_,_,_,_,_,_,_,_,_,_,_,_,_,_,_,_,_,_,_,_,_,_,_,_,_,_,_,_,_,_,_,_,_,_,_,_,_,_,_,_,_,_,_,_,_,_,_,_,_,_,_,_,_,_,_,_,_,_,_,_,_,_,_,_,_,_,_,_,_,_,_,_,_,_,_,_,_,_,_,_,_,_,_,_,_,_,_,_,_,_,_,_,_,_,_,_,_,_,_,_,_,_,_,_,_,_,_,_,_,_,_,_,_,_,_,_,_,_,_,_,_,_], defers := _ } _
                    refine wpAnyH_ready (rs := [28]) (by kernel_rfl) (by simp) ?_
                    refine (AllReadyH.cons rfl (fun KK hK => ?_) AllReadyH.nil)
                    go_simp
                    refine hK.out _ _ H (fun _ => ?_)
                    clear hK KK
                    change wpAnyH _ _ _ _ _ _ _ { tmps := #[_,_,_,_,_,_,_,_,_,_,_,_,_,_,_,_,_,_,_,_,_,_,_,_,_,_,_,_,_,_,_,_,_,_,_,_,_,_,_,_,_,_,_,_,_,_,_,_,_,_,_,_,_,_,_,_,_,_,_,_,_,_,_,_,_,_,_,_,_,_,_,_,_,_,_,_,_,_,_,_,_,_,_,_,_,_,_,_,_,_,_,_,_,_,_,_,_,_,_,_,_,_,_,_,_,_,_,_,_,_,_,_,_,_,_,_,_,_,_,_,_,_,_,_,_,_,_,_,_,_], defers := _ } _
                    have hb1 : Below y0.heap.size y0 (y0.alloc (.cells #[.int .i64 (A5 : Int), .int .i64 (A6 : Int), .int .i64 (A7 : Int), .int .i64 (A8 : Int)] 100)) := (Below.refl _ _).alloc (Nat.le_refl _) _
                    have lc : ∀ j, j < 4 → (y0.alloc (.cells #[.int .i64 (A5 : Int), .int .i64 (A6 : Int), .int .i64 (A7 : Int), .int .i64 (A8 : Int)] 100)).cell? ⟨y0.heap.size, 0 + j, none⟩ = some (seV (⟨(A5 : Int), (A6 : Int), (A7 : Int), (A8 : Int)⟩ : Se) j) := litCells (w := y0) (t := 100) (cs := #[.int .i64 (A5 : Int), .int .i64 (A6 : Int), .int .i64 (A7 : Int), .int .i64 (A8 : Int)]) (m := 4) (seV (⟨(A5 : Int), (A6 : Int), (A7 : Int), (A8 : Int)⟩ : Se)) rfl (fun i hi => by rcases (show i = 0 ∨ i = 1 ∨ i = 2 ∨ i = 3 by omega) with rfl | rfl | rfl | rfl <;> rfl)
                    have szu := SZ.out
                    obtain ⟨nv, w5, hr5, hE5, hg5, hl5⟩ := appSe (y0.alloc (.cells #[.int .i64 (A5 : Int), .int .i64 (A6 : Int), .int .i64 (A7 : Int), .int .i64 (A8 : Int)] 100)) (w.heap.size + 1) v1 m y0.heap.size (pSeO (strB T) (P + 1)) (⟨(A5 : Int), (A6 : Int), (A7 : Int), (A8 : Int)⟩ : Se) (by simp; omega) (by omega) (SV.out.below hb1) lc
                    obtain ⟨na, nc, rfl⟩ := hE5.form
                    refine wpAnyH_ready (rs := [29]) (by kernel_rfl) (by simp) ?_
                    refine AllReadyH.cons rfl (fun KK hK => ?_) AllReadyH.nil
                    rw [if_pos (by rfl)]
                    refine Lib.wp_append_run _ (.tmp 86) (.tmp 113) 44 44 rfl v1 (.slice (some ⟨y0.heap.size, 0, none⟩) 1 1) rfl rfl _ _ (hr5 _) ?_
                    refine hK.out _ _ H (fun _ => ?_)
                    clear hK KK
                    change wpAnyH _ _ _ _ _ _ _ { tmps := #[_,_,_,_,_,_,_,_,_,_,_,_,_,_,_,_,_,_,_,_,_,_,_,_,_,_,_,_,_,_,_,_,_,_,_,_,_,_,_,_,_,_,_,_,_,_,_,_,_,_,_,_,_,_,_,_,_,_,_,_,_,_,_,_,_,_,_,_,_,_,_,_,_,_,_,_,_,_,_,_,_,_,_,_,_,_,_,_,_,_,_,_,_,_,_,_,_,_,_,_,_,_,_,_,_,_,_,_,_,_,_,_,_,_,_,_,_,_,_,_,_,_,_,_,_,_,_,_,_,_], defers := _ } _
                    refine wpAnyH_take (i := 30) (v := .pointer (some ⟨w.heap.size + 1 + 1 + 1, 1, none⟩)) rfl (by kernel_rfl) (by kernel_rfl) (by kernel_rfl) (fun _ _ _ h => h) (Or.inl ⟨by rfl, ?_⟩) H ?_
                    · intro w' hSw; clear hSw; go_simp
                    change wpAnyH _ _ _ _ _ _ _ { tmps := #[_,_,_,_,_,_,_,_,_,_,_,_,_,_,_,_,_,_,_,_,_,_,_,_,_,_,_,_,_,_,_,_,_,_,_,_,_,_,_,_,_,_,_,_,_,_,_,_,_,_,_,_,_,_,_,_,_,_,_,_,_,_,_,_,_,_,_,_,_,_,_,_,_,_,_,_,_,_,_,_,_,_,_,_,_,_,_,_,_,_,_,_,_,_,_,_,_,_,_,_,_,_,_,_,_,_,_,_,_,_,_,_,_,_,_,_,_,_,_,_,_,_,_,_,_,_,_,_,_,_], defers := _ } _
                    have ob : ∀ g, v1.ownBlock = some g → w.heap.size + 1 ≤ g ∧ g ≠ w.heap.size + 1 + 1 + 1 := fun g e => ⟨(SV.out.ge g e).1, NB1.out g e⟩
                    have sz2 : (y0.alloc (.cells #[.int .i64 (A5 : Int), .int .i64 (A6 : Int), .int .i64 (A7 : Int), .int .i64 (A8 : Int)] 100)).heap.size = y0.heap.size + 1 := by simp
                    have k5 : ∀ q, q < y0.heap.size → (∀ g, v1.ownBlock = some g → q ≠ g) → w5.heap[q]? = y0.heap[q]? := fun q hq hn => (grown_block hg5 (by rw [sz2]; omega) hn).trans (hb1.block q hq)
                    have BV5 := BV.out.ofBlock (k5 _ (by omega) (fun g e q => (ob g e).2 q.symm))
                    have f5 := BV5.fr 1
                    have c5 := BV5.c1
                    have X6 : Hid (Box2 (w5.setCell ⟨w.heap.size + 1 + 1 + 1, 1, none⟩ (.slice na (m + 1) nc)) w.heap.size 46 (.slice none 0 0) (.slice none 0 0)) := (X0.out.ofBlock (k5 _ (by omega) (fun g e q => by have := (ob g e).1; omega))).other (by simp; omega) _
                    have BV6 : Hid (Box2 (w5.setCell ⟨w.heap.size + 1 + 1 + 1, 1, none⟩ (.slice na (m + 1) nc)) (w.heap.size + 1 + 1 + 1) 46 v0 (.slice na (m + 1) nc)) := BV5.set1 _
                    have nn : ∀ g, (Value.slice na (m + 1) nc).ownBlock = some g → (v1.ownBlock = some g ∨ g = y0.heap.size + 1) := fun g e => by
                      rcases hl5 with q | q
                      · exact .inl (q.symm.trans e)
                      · right; rw [e] at q; rw [sz2] at q; exact Option.some.inj q
                    have N6 : Hid (∀ g, (Value.slice na (m + 1) nc).ownBlock = some g → g ≠ w.heap.size + 1 + 1 + 1) := fun g e => by
                      rcases nn g e with q | q
                      · exact (ob g q).2
                      · omega
                    have E6 : Hid (EO (w5.setCell ⟨w.heap.size + 1 + 1 + 1, 1, none⟩ (.slice na (m + 1) nc)) (w.heap.size + 1) 100 4 (.slice na (m + 1) nc) (m + 1) (seF (pSeO (strB T) (P + 1)))) := (hE5.keep (fun g e => heap_setOther _ _ (N6.out g e))).congr (fun i hi j hj => by unfold seF updE; by_cases q : i = m; rw [if_pos q, XR.out, q]; rw [if_neg q])
                    have O6 : Hid (EO (w5.setCell ⟨w.heap.size + 1 + 1 + 1, 1, none⟩ (.slice na (m + 1) nc)) (w.heap.size + 1) 54 3 v0 k (rgF (pRg (strB T)))) := RV.out.keep (fun g e => (heap_setOther _ _ (NB0.out g e)).trans (k5 g (RV.out.ge g e).2 (fun g2 e2 q => AP.out g e (q ▸ e2))))
                    have A6 : Hid (∀ g, v0.ownBlock = some g → (Value.slice na (m + 1) nc).ownBlock ≠ some g) := fun g e q => by
                      rcases nn g q with z | z
                      · exact AP.out g e z
                      · have := (RV.out.ge g e).2; omega
                    have SZ6 : Hid (w.heap.size + 1 + 1 + 1 + 1 ≤ (w5.setCell ⟨w.heap.size + 1 + 1 + 1, 1, none⟩ (.slice na (m + 1) nc)).heap.size) := by
                      have := hg5.size
                      rw [sz2] at this
                      show _ ≤ _
                      simp
                      omega
                    have AB6 : Hid (Below w.heap.size w (w5.setCell ⟨w.heap.size + 1 + 1 + 1, 1, none⟩ (.slice na (m + 1) nc))) := (AB.out.trans ((hb1.mono AB.out.size).trans (grown_belowE hg5 (by rw [sz2]; omega) (fun g e => by have := (ob g e).1; omega)))).setCell (by simp; omega) _
                    clear hE5 hg5 hl5 k5 BV5 lc hb1 sz2 ob nn
                    refine wpAnyH_ready (rs := [31]) (by kernel_rfl) (by simp) ?_
                    refine AllReadyH.cons rfl (fun KK hK => ?_) AllReadyH.nil
                    go_simp
                    refine hK.out _ _ H (fun _ => ?_)
                    clear hK KK
                    refine wpAnyH_done (by kernel_rfl) ?_ _
                    refine NoPanic.normal ?_
                    clear H X0 BV RV SV NB0 NB1 AP SZ AB hr5 szu f5 c5
                    have E7 : Hid (Q + 9 = P + 1 + 9 * (m + 1)) := by have := HQ.out; show _ = _; omega
                    have E8 : Hid (J - 1 = x4 - (m + 1) ∧ m + 1 ≤ x4) := by have := HJ.out; exact ⟨by omega, by omega⟩
                    have i8 : J ≤ 255 := by have := HJ.out; omega
                    have i9 : IntKind.i64.wrap ((J : Int) - 1) = ((J - 1 : Nat) : Int) := by rw [IntWalk.i64_in _ (by omega)]; omega
                    clear NA NC ND XR es wV slNA slNC slND
                    change Exit.then _ _ Exit.normal { tmps := #[_, _, _, _, _, _, _, _, _, _, _, _, _, _, _, _, _, _, _, _, _, _, _, _, _, _, _, _, _, _, _, _, _, _, _, _, _, _, _, _, _, _, _, _, _, _, _, _, _, _, _, _, _, _, _, _, _, _, _, _, _, _, _, _, _, _, _, _, _, _, _, _, _, _, _, _, _, _, _, _, _, _, _, _, _, _, _, _, _, _, _, _, _, _, _, _, _, _, _, _, _, _, _, _, _, _, _, _, _, _, _, _, _, _, _, _, _, _, _, _, _, _, _, _, _, _, _, _, _, _], defers := _ } _
                    go_wp2
                    go_roundw
                    case rel => exact ⟨m + 1, _, E8.out.2, by have := E7.out; omega, numEq8 (by have := E7.out; omega), numEq8 (by have := E8.out.1; omega), X6.out, BV6.out, O6.out, E6.out, NB0x.out, N6.out, A6.out, SZ6.out, AB6.out⟩
                    case measure => simp [intOf]; omega
                  · skip
                    go_simp
                    refine (NC.out _).mono ?_
                    rintro e _ ⟨rfl, rfl⟩
                    refine hK.out _ _ H (fun _ => ?_)
                    clear hK KK
                    change wpAnyH _ _ _ _ _ _ _ { tmps := #[_,_,_,_,_,_,_,_,_,_,_,_,_,_,_,_,_,_,_,_,_,_,_,_,_,_,_,_,_,_,_,_,_,_,_,_,_,_,_,_,_,_,_,_,_,_,_,_,_,_,_,_,_,_,_,_,_,_,_,_,_,_,_,_,_,_,_,_,_,_,_,_,_,_,_,_,_,_,_,_,_,_,_,_,_,_,_,_,_,_,_,_,_,_,_,_,_,_,_,_,_,_,_,_,_,_,_,_,_,_,_,_,_,_,_,_,_,_,_,_,_,_,_,_,_,_,_,_,_,_], defers := _ } _
                    refine wpAnyH_ready (rs := [1, 26]) (by kernel_rfl) (by simp) ?_
                    refine (AllReadyH.cons rfl (fun KK hK => ?_) (AllReadyH.cons rfl (fun KK hK => ?_) AllReadyH.nil))
                    · skip
                      have lb := BV.out.c1
                      go_simp
                      refine hK.out _ _ H (fun _ => ?_)
                      clear hK KK lb
                      change wpAnyH _ _ _ _ _ _ _ { tmps := #[_,_,_,_,_,_,_,_,_,_,_,_,_,_,_,_,_,_,_,_,_,_,_,_,_,_,_,_,_,_,_,_,_,_,_,_,_,_,_,_,_,_,_,_,_,_,_,_,_,_,_,_,_,_,_,_,_,_,_,_,_,_,_,_,_,_,_,_,_,_,_,_,_,_,_,_,_,_,_,_,_,_,_,_,_,_,_,_,_,_,_,_,_,_,_,_,_,_,_,_,_,_,_,_,_,_,_,_,_,_,_,_,_,_,_,_,_,_,_,_,_,_,_,_,_,_,_,_,_,_], defers := _ } _
                      refine wpAnyH_ready (rs := [26]) (by kernel_rfl) (by simp) ?_
                      refine (AllReadyH.cons rfl (fun KK hK => ?_) AllReadyH.nil)
                      go_simp
                      refine (ND.out _).mono ?_
                      rintro e _ ⟨rfl, rfl⟩
                      refine hK.out _ _ H (fun _ => ?_)
                      clear hK KK
                      change wpAnyH _ _ _ _ _ _ _ { tmps := #[_,_,_,_,_,_,_,_,_,_,_,_,_,_,_,_,_,_,_,_,_,_,_,_,_,_,_,_,_,_,_,_,_,_,_,_,_,_,_,_,_,_,_,_,_,_,_,_,_,_,_,_,_,_,_,_,_,_,_,_,_,_,_,_,_,_,_,_,_,_,_,_,_,_,_,_,_,_,_,_,_,_,_,_,_,_,_,_,_,_,_,_,_,_,_,_,_,_,_,_,_,_,_,_,_,_,_,_,_,_,_,_,_,_,_,_,_,_,_,_,_,_,_,_,_,_,_,_,_,_], defers := _ } _
                      refine wpAnyH_take (i := 27) (v := .agg #[.int .i64 (A5 : Int), .int .i64 (A6 : Int), .int .i64 (A7 : Int), .int .i64 (A8 : Int)]) rfl (by kernel_rfl) (by kernel_rfl) (by kernel_rfl) (fun _ _ _ h => h) (Or.inl ⟨by rfl, ?_⟩) H ?_
                      · intro w' hSw; clear hSw; go_simp
                      change wpAnyH _ _ _ _ _ _ _ { tmps := #[_,_,_,_,_,_,_,_,_,_,_,_,_,_,_,_,_,_,_,_,_,_,_,_,_,_,_,_,_,_,_,_,_,_,_,_,_,_,_,_,_,_,_,_,_,_,_,_,_,_,_,_,_,_,_,_,_,_,_,_,_,_,_,_,_,_,_,_,_,_,_,_,_,_,_,_,_,_,_,_,_,_,_,_,_,_,_,_,_,_,_,_,_,_,_,_,_,_,_,_,_,_,_,_,_,_,_,_,_,_,_,_,_,_,_,_,_,_,_,_,_,_,_,_,_,_,_,_,_,_], defers := _ } _
                      refine wpAnyH_ready (rs := [28]) (by kernel_rfl) (by simp) ?_
                      refine (AllReadyH.cons rfl (fun KK hK => ?_) AllReadyH.nil)
                      go_simp
                      refine hK.out _ _ H (fun _ => ?_)
                      clear hK KK
                      change wpAnyH _ _ _ _ _ _ _ { tmps := #[_,_,_,_,_,_,_,_,_,_,_,_,_,_,_,_,_,_,_,_,_,_,_,_,_,_,_,_,_,_,_,_,_,_,_,_,_,_,_,_,_,_,_,_,_,_,_,_,_,_,_,_,_,_,_,_,_,_,_,_,_,_,_,_,_,_,_,_,_,_,_,_,_,_,_,_,_,_,_,_,_,_,_,_,_,_,_,_,_,_,_,_,_,_,_,_,_,_,_,_,_,_,_,_,_,_,_,_,_,_,_,_,_,_,_,_,_,_,_,_,_,_,_,_,_,_,_,_,_,_], defers := _ } _
                      have hb1 : Below y0.heap.size y0 (y0.alloc (.cells #[.int .i64 (A5 : Int), .int .i64 (A6 : Int), .int .i64 (A7 : Int), .int .i64 (A8 : Int)] 100)) := (Below.refl _ _).alloc (Nat.le_refl _) _
                      have lc : ∀ j, j < 4 → (y0.alloc (.cells #[.int .i64 (A5 : Int), .int .i64 (A6 : Int), .int .i64 (A7 : Int), .int .i64 (A8 : Int)] 100)).cell? ⟨y0.heap.size, 0 + j, none⟩ = some (seV (⟨(A5 : Int), (A6 : Int), (A7 : Int), (A8 : Int)⟩ : Se) j) := litCells (w := y0) (t := 100) (cs := #[.int .i64 (A5 : Int), .int .i64 (A6 : Int), .int .i64 (A7 : Int), .int .i64 (A8 : Int)]) (m := 4) (seV (⟨(A5 : Int), (A6 : Int), (A7 : Int), (A8 : Int)⟩ : Se)) rfl (fun i hi => by rcases (show i = 0 ∨ i = 1 ∨ i = 2 ∨ i = 3 by omega) with rfl | rfl | rfl | rfl <;> rfl)
                      have szu := SZ.out
                      obtain ⟨nv, w5, hr5, hE5, hg5, hl5⟩ := appSe (y0.alloc (.cells #[.int .i64 (A5 : Int), .int .i64 (A6 : Int), .int .i64 (A7 : Int), .int .i64 (A8 : Int)] 100)) (w.heap.size + 1) v1 m y0.heap.size (pSeO (strB T) (P + 1)) (⟨(A5 : Int), (A6 : Int), (A7 : Int), (A8 : Int)⟩ : Se) (by simp; omega) (by omega) (SV.out.below hb1) lc
                      obtain ⟨na, nc, rfl⟩ := hE5.form
                      refine wpAnyH_ready (rs := [29]) (by kernel_rfl) (by simp) ?_
                      refine AllReadyH.cons rfl (fun KK hK => ?_) AllReadyH.nil
                      rw [if_pos (by rfl)]
                      refine Lib.wp_append_run _ (.tmp 86) (.tmp 113) 44 44 rfl v1 (.slice (some ⟨y0.heap.size, 0, none⟩) 1 1) rfl rfl _ _ (hr5 _) ?_
                      refine hK.out _ _ H (fun _ => ?_)
                      clear hK KK
                      change wpAnyH _ _ _ _ _ _ _ { tmps := #[_,_,_,_,_,_,_,_,_,_,_,_,_,_,_,_,_,_,_,_,_,_,_,_,_,_,_,_,_,_,_,_,_,_,_,_,_,_,_,_,_,_,_,_,_,_,_,_,_,_,_,_,_,_,_,_,_,_,_,_,_,_,_,_,_,_,_,_,_,_,_,_,_,_,_,_,_,_,_,_,_,_,_,_,_,_,_,_,_,_,_,_,_,_,_,_,_,_,_,_,_,_,_,_,_,_,_,_,_,_,_,_,_,_,_,_,_,_,_,_,_,_,_,_,_,_,_,_,_,_], defers := _ } _
                      refine wpAnyH_take (i := 30) (v := .pointer (some ⟨w.heap.size + 1 + 1 + 1, 1, none⟩)) rfl (by kernel_rfl) (by kernel_rfl) (by kernel_rfl) (fun _ _ _ h => h) (Or.inl ⟨by rfl, ?_⟩) H ?_
                      · intro w' hSw; clear hSw; go_simp
                      change wpAnyH _ _ _ _ _ _ _ { tmps := #[_,_,_,_,_,_,_,_,_,_,_,_,_,_,_,_,_,_,_,_,_,_,_,_,_,_,_,_,_,_,_,_,_,_,_,_,_,_,_,_,_,_,_,_,_,_,_,_,_,_,_,_,_,_,_,_,_,_,_,_,_,_,_,_,_,_,_,_,_,_,_,_,_,_,_,_,_,_,_,_,_,_,_,_,_,_,_,_,_,_,_,_,_,_,_,_,_,_,_,_,_,_,_,_,_,_,_,_,_,_,_,_,_,_,_,_,_,_,_,_,_,_,_,_,_,_,_,_,_,_], defers := _ } _
                      have ob : ∀ g, v1.ownBlock = some g → w.heap.size + 1 ≤ g ∧ g ≠ w.heap.size + 1 + 1 + 1 := fun g e => ⟨(SV.out.ge g e).1, NB1.out g e⟩
                      have sz2 : (y0.alloc (.cells #[.int .i64 (A5 : Int), .int .i64 (A6 : Int), .int .i64 (A7 : Int), .int .i64 (A8 : Int)] 100)).heap.size = y0.heap.size + 1 := by simp
                      have k5 : ∀ q, q < y0.heap.size → (∀ g, v1.ownBlock = some g → q ≠ g) → w5.heap[q]? = y0.heap[q]? := fun q hq hn => (grown_block hg5 (by rw [sz2]; omega) hn).trans (hb1.block q hq)
                      have BV5 := BV.out.ofBlock (k5 _ (by omega) (fun g e q => (ob g e).2 q.symm))
                      have f5 := BV5.fr 1
                      have c5 := BV5.c1
                      have X6 : Hid (Box2 (w5.setCell ⟨w.heap.size + 1 + 1 + 1, 1, none⟩ (.slice na (m + 1) nc)) w.heap.size 46 (.slice none 0 0) (.slice none 0 0)) := (X0.out.ofBlock (k5 _ (by omega) (fun g e q => by have := (ob g e).1; omega))).other (by simp; omega) _
                      have BV6 : Hid (Box2 (w5.setCell ⟨w.heap.size + 1 + 1 + 1, 1, none⟩ (.slice na (m + 1) nc)) (w.heap.size + 1 + 1 + 1) 46 v0 (.slice na (m + 1) nc)) := BV5.set1 _
                      have nn : ∀ g, (Value.slice na (m + 1) nc).ownBlock = some g → (v1.ownBlock = some g ∨ g = y0.heap.size + 1) := fun g e => by
                        rcases hl5 with q | q
                        · exact .inl (q.symm.trans e)
                        · right; rw [e] at q; rw [sz2] at q; exact Option.some.inj q
                      have N6 : Hid (∀ g, (Value.slice na (m + 1) nc).ownBlock = some g → g ≠ w.heap.size + 1 + 1 + 1) := fun g e => by
                        rcases nn g e with q | q
                        · exact (ob g q).2
                        · omega
                      have E6 : Hid (EO (w5.setCell ⟨w.heap.size + 1 + 1 + 1, 1, none⟩ (.slice na (m + 1) nc)) (w.heap.size + 1) 100 4 (.slice na (m + 1) nc) (m + 1) (seF (pSeO (strB T) (P + 1)))) := (hE5.keep (fun g e => heap_setOther _ _ (N6.out g e))).congr (fun i hi j hj => by unfold seF updE; by_cases q : i = m; rw [if_pos q, XR.out, q]; rw [if_neg q])
                      have O6 : Hid (EO (w5.setCell ⟨w.heap.size + 1 + 1 + 1, 1, none⟩ (.slice na (m + 1) nc)) (w.heap.size + 1) 54 3 v0 k (rgF (pRg (strB T)))) := RV.out.keep (fun g e => (heap_setOther _ _ (NB0.out g e)).trans (k5 g (RV.out.ge g e).2 (fun g2 e2 q => AP.out g e (q ▸ e2))))
                      have A6 : Hid (∀ g, v0.ownBlock = some g → (Value.slice na (m + 1) nc).ownBlock ≠ some g) := fun g e q => by
                        rcases nn g q with z | z
                        · exact AP.out g e z
                        · have := (RV.out.ge g e).2; omega
                      have SZ6 : Hid (w.heap.size + 1 + 1 + 1 + 1 ≤ (w5.setCell ⟨w.heap.size + 1 + 1 + 1, 1, none⟩ (.slice na (m + 1) nc)).heap.size) := by
                        have := hg5.size
                        rw [sz2] at this
                        show _ ≤ _
                        simp
                        omega
                      have AB6 : Hid (Below w.heap.size w (w5.setCell ⟨w.heap.size + 1 + 1 + 1, 1, none⟩ (.slice na (m + 1) nc))) := (AB.out.trans ((hb1.mono AB.out.size).trans (grown_belowE hg5 (by rw [sz2]; omega) (fun g e => by have := (ob g e).1; omega)))).setCell (by simp; omega) _
                      clear hE5 hg5 hl5 k5 BV5 lc hb1 sz2 ob nn
                      refine wpAnyH_ready (rs := [31]) (by kernel_rfl) (by simp) ?_
                      refine AllReadyH.cons rfl (fun KK hK => ?_) AllReadyH.nil
                      go_simp
                      refine hK.out _ _ H (fun _ => ?_)
                      clear hK KK
                      refine wpAnyH_done (by kernel_rfl) ?_ _
                      refine NoPanic.normal ?_
                      clear H X0 BV RV SV NB0 NB1 AP SZ AB hr5 szu f5 c5
                      have E7 : Hid (Q + 9 = P + 1 + 9 * (m + 1)) := by have := HQ.out; show _ = _; omega
                      have E8 : Hid (J - 1 = x4 - (m + 1) ∧ m + 1 ≤ x4) := by have := HJ.out; exact ⟨by omega, by omega⟩
                      have i8 : J ≤ 255 := by have := HJ.out; omega
                      have i9 : IntKind.i64.wrap ((J : Int) - 1) = ((J - 1 : Nat) : Int) := by rw [IntWalk.i64_in _ (by omega)]; omega
                      clear NA NC ND XR es wV slNA slNC slND
                      change Exit.then _ _ Exit.normal { tmps := #[_, _, _, _, _, _, _, _, _, _, _, _, _, _, _, _, _, _, _, _, _, _, _, _, _, _, _, _, _, _, _, _, _, _, _, _, _, _, _, _, _, _, _, _, _, _, _, _, _, _, _, _, _, _, _, _, _, _, _, _, _, _, _, _, _, _, _, _, _, _, _, _, _, _, _, _, _, _, _, _, _, _, _, _, _, _, _, _, _, _, _, _, _, _, _, _, _, _, _, _, _, _, _, _, _, _, _, _, _, _, _, _, _, _, _, _, _, _, _, _, _, _, _, _, _, _, _, _, _, _], defers := _ } _
                      go_wp2
                      go_roundw
                      case rel => exact ⟨m + 1, _, E8.out.2, by have := E7.out; omega, numEq8 (by have := E7.out; omega), numEq8 (by have := E8.out.1; omega), X6.out, BV6.out, O6.out, E6.out, NB0x.out, N6.out, A6.out, SZ6.out, AB6.out⟩
                      case measure => simp [intOf]; omega
                    · skip
                      go_simp
                      refine (ND.out _).mono ?_
                      rintro e _ ⟨rfl, rfl⟩
                      refine hK.out _ _ H (fun _ => ?_)
                      clear hK KK
                      change wpAnyH _ _ _ _ _ _ _ { tmps := #[_,_,_,_,_,_,_,_,_,_,_,_,_,_,_,_,_,_,_,_,_,_,_,_,_,_,_,_,_,_,_,_,_,_,_,_,_,_,_,_,_,_,_,_,_,_,_,_,_,_,_,_,_,_,_,_,_,_,_,_,_,_,_,_,_,_,_,_,_,_,_,_,_,_,_,_,_,_,_,_,_,_,_,_,_,_,_,_,_,_,_,_,_,_,_,_,_,_,_,_,_,_,_,_,_,_,_,_,_,_,_,_,_,_,_,_,_,_,_,_,_,_,_,_,_,_,_,_,_,_], defers := _ } _
                      refine wpAnyH_take (i := 27) (v := .agg #[.int .i64 (A5 : Int), .int .i64 (A6 : Int), .int .i64 (A7 : Int), .int .i64 (A8 : Int)]) rfl (by kernel_rfl) (by kernel_rfl) (by kernel_rfl) (fun _ _ _ h => h) (Or.inl ⟨by rfl, ?_⟩) H ?_
                      · intro w' hSw; clear hSw; go_simp
                      change wpAnyH _ _ _ _ _ _ _ { tmps := #[_,_,_,_,_,_,_,_,_,_,_,_,_,_,_,_,_,_,_,_,_,_,_,_,_,_,_,_,_,_,_,_,_,_,_,_,_,_,_,_,_,_,_,_,_,_,_,_,_,_,_,_,_,_,_,_,_,_,_,_,_,_,_,_,_,_,_,_,_,_,_,_,_,_,_,_,_,_,_,_,_,_,_,_,_,_,_,_,_,_,_,_,_,_,_,_,_,_,_,_,_,_,_,_,_,_,_,_,_,_,_,_,_,_,_,_,_,_,_,_,_,_,_,_,_,_,_,_,_,_], defers := _ } _
                      refine wpAnyH_ready (rs := [1, 28]) (by kernel_rfl) (by simp) ?_
                      refine (AllReadyH.cons rfl (fun KK hK => ?_) (AllReadyH.cons rfl (fun KK hK => ?_) AllReadyH.nil))
                      · skip
                        have lb := BV.out.c1
                        go_simp
                        refine hK.out _ _ H (fun _ => ?_)
                        clear hK KK lb
                        change wpAnyH _ _ _ _ _ _ _ { tmps := #[_,_,_,_,_,_,_,_,_,_,_,_,_,_,_,_,_,_,_,_,_,_,_,_,_,_,_,_,_,_,_,_,_,_,_,_,_,_,_,_,_,_,_,_,_,_,_,_,_,_,_,_,_,_,_,_,_,_,_,_,_,_,_,_,_,_,_,_,_,_,_,_,_,_,_,_,_,_,_,_,_,_,_,_,_,_,_,_,_,_,_,_,_,_,_,_,_,_,_,_,_,_,_,_,_,_,_,_,_,_,_,_,_,_,_,_,_,_,_,_,_,_,_,_,_,_,_,_,_,_], defers := _ } _
                        refine wpAnyH_ready (rs := [28]) (by kernel_rfl) (by simp) ?_
                        refine (AllReadyH.cons rfl (fun KK hK => ?_) AllReadyH.nil)
                        go_simp
                        refine hK.out _ _ H (fun _ => ?_)
                        clear hK KK
                        change wpAnyH _ _ _ _ _ _ _ { tmps := #[_,_,_,_,_,_,_,_,_,_,_,_,_,_,_,_,_,_,_,_,_,_,_,_,_,_,_,_,_,_,_,_,_,_,_,_,_,_,_,_,_,_,_,_,_,_,_,_,_,_,_,_,_,_,_,_,_,_,_,_,_,_,_,_,_,_,_,_,_,_,_,_,_,_,_,_,_,_,_,_,_,_,_,_,_,_,_,_,_,_,_,_,_,_,_,_,_,_,_,_,_,_,_,_,_,_,_,_,_,_,_,_,_,_,_,_,_,_,_,_,_,_,_,_,_,_,_,_,_,_], defers := _ } _
                        have hb1 : Below y0.heap.size y0 (y0.alloc (.cells #[.int .i64 (A5 : Int), .int .i64 (A6 : Int), .int .i64 (A7 : Int), .int .i64 (A8 : Int)] 100)) := (Below.refl _ _).alloc (Nat.le_refl _) _
                        have lc : ∀ j, j < 4 → (y0.alloc (.cells #[.int .i64 (A5 : Int), .int .i64 (A6 : Int), .int .i64 (A7 : Int), .int .i64 (A8 : Int)] 100)).cell? ⟨y0.heap.size, 0 + j, none⟩ = some (seV (⟨(A5 : Int), (A6 : Int), (A7 : Int), (A8 : Int)⟩ : Se) j) := litCells (w := y0) (t := 100) (cs := #[.int .i64 (A5 : Int), .int .i64 (A6 : Int), .int .i64 (A7 : Int), .int .i64 (A8 : Int)]) (m := 4) (seV (⟨(A5 : Int), (A6 : Int), (A7 : Int), (A8 : Int)⟩ : Se)) rfl (fun i hi => by rcases (show i = 0 ∨ i = 1 ∨ i = 2 ∨ i = 3 by omega) with rfl | rfl | rfl | rfl <;> rfl)
                        have szu := SZ.out
                        obtain ⟨nv, w5, hr5, hE5, hg5, hl5⟩ := appSe (y0.alloc (.cells #[.int .i64 (A5 : Int), .int .i64 (A6 : Int), .int .i64 (A7 : Int), .int .i64 (A8 : Int)] 100)) (w.heap.size + 1) v1 m y0.heap.size (pSeO (strB T) (P + 1)) (⟨(A5 : Int), (A6 : Int), (A7 : Int), (A8 : Int)⟩ : Se) (by simp; omega) (by omega) (SV.out.below hb1) lc
                        obtain ⟨na, nc, rfl⟩ := hE5.form
                        refine wpAnyH_ready (rs := [29]) (by kernel_rfl) (by simp) ?_
                        refine AllReadyH.cons rfl (fun KK hK => ?_) AllReadyH.nil
                        rw [if_pos (by rfl)]
                        refine Lib.wp_append_run _ (.tmp 86) (.tmp 113) 44 44 rfl v1 (.slice (some ⟨y0.heap.size, 0, none⟩) 1 1) rfl rfl _ _ (hr5 _) ?_
                        refine hK.out _ _ H (fun _ => ?_)
                        clear hK KK
                        change wpAnyH _ _ _ _ _ _ _ { tmps := #[_,_,_,_,_,_,_,_,_,_,_,_,_,_,_,_,_,_,_,_,_,_,_,_,_,_,_,_,_,_,_,_,_,_,_,_,_,_,_,_,_,_,_,_,_,_,_,_,_,_,_,_,_,_,_,_,_,_,_,_,_,_,_,_,_,_,_,_,_,_,_,_,_,_,_,_,_,_,_,_,_,_,_,_,_,_,_,_,_,_,_,_,_,_,_,_,_,_,_,_,_,_,_,_,_,_,_,_,_,_,_,_,_,_,_,_,_,_,_,_,_,_,_,_,_,_,_,_,_,_], defers := _ } _
                        refine wpAnyH_take (i := 30) (v := .pointer (some ⟨w.heap.size + 1 + 1 + 1, 1, none⟩)) rfl (by kernel_rfl) (by kernel_rfl) (by kernel_rfl) (fun _ _ _ h => h) (Or.inl ⟨by rfl, ?_⟩) H ?_
                        · intro w' hSw; clear hSw; go_simp
                        change wpAnyH _ _ _ _ _ _ _ { tmps := #[_,_,_,_,_,_,_,_,_,_,_,_,_,_,_,_,_,_,_,_,_,_,_,_,_,_,_,_,_,_,_,_,_,_,_,_,_,_,_,_,_,_,_,_,_,_,_,_,_,_,_,_,_,_,_,_,_,_,_,_,_,_,_,_,_,_,_,_,_,_,_,_,_,_,_,_,_,_,_,_,_,_,_,_,_,_,_,_,_,_,_,_,_,_,_,_,_,_,_,_,_,_,_,_,_,_,_,_,_,_,_,_,_,_,_,_,_,_,_,_,_,_,_,_,_,_,_,_,_,_], defers := _ } _
                        have ob : ∀ g, v1.ownBlock = some g → w.heap.size + 1 ≤ g ∧ g ≠ w.heap.size + 1 + 1 + 1 := fun g e => ⟨(SV.out.ge g e).1, NB1.out g e⟩
                        have sz2 : (y0.alloc (.cells #[.int .i64 (A5 : Int), .int .i64 (A6 : Int), .int .i64 (A7 : Int), .int .i64 (A8 : Int)] 100)).heap.size = y0.heap.size + 1 := by simp
                        have k5 : ∀ q, q < y0.heap.size → (∀ g, v1.ownBlock = some g → q ≠ g) → w5.heap[q]? = y0.heap[q]? := fun q hq hn => (grown_block hg5 (by rw [sz2]; omega) hn).trans (hb1.block q hq)
                        have BV5 := BV.out.ofBlock (k5 _ (by omega) (fun g e q => (ob g e).2 q.symm))
                        have f5 := BV5.fr 1
                        have c5 := BV5.c1
                        have X6 : Hid (Box2 (w5.setCell ⟨w.heap.size + 1 + 1 + 1, 1, none⟩ (.slice na (m + 1) nc)) w.heap.size 46 (.slice none 0 0) (.slice none 0 0)) := (X0.out.ofBlock (k5 _ (by omega) (fun g e q => by have := (ob g e).1; omega))).other (by simp; omega) _
                        have BV6 : Hid (Box2 (w5.setCell ⟨w.heap.size + 1 + 1 + 1, 1, none⟩ (.slice na (m + 1) nc)) (w.heap.size + 1 + 1 + 1) 46 v0 (.slice na (m + 1) nc)) := BV5.set1 _
                        have nn : ∀ g, (Value.slice na (m + 1) nc).ownBlock = some g → (v1.ownBlock = some g ∨ g = y0.heap.size + 1) := fun g e => by
                          rcases hl5 with q | q
                          · exact .inl (q.symm.trans e)
                          · right; rw [e] at q; rw [sz2] at q; exact Option.some.inj q
                        have N6 : Hid (∀ g, (Value.slice na (m + 1) nc).ownBlock = some g → g ≠ w.heap.size + 1 + 1 + 1) := fun g e => by
                          rcases nn g e with q | q
                          · exact (ob g q).2
                          · omega
                        have E6 : Hid (EO (w5.setCell ⟨w.heap.size + 1 + 1 + 1, 1, none⟩ (.slice na (m + 1) nc)) (w.heap.size + 1) 100 4 (.slice na (m + 1) nc) (m + 1) (seF (pSeO (strB T) (P + 1)))) := (hE5.keep (fun g e => heap_setOther _ _ (N6.out g e))).congr (fun i hi j hj => by unfold seF updE; by_cases q : i = m; rw [if_pos q, XR.out, q]; rw [if_neg q])
                        have O6 : Hid (EO (w5.setCell ⟨w.heap.size + 1 + 1 + 1, 1, none⟩ (.slice na (m + 1) nc)) (w.heap.size + 1) 54 3 v0 k (rgF (pRg (strB T)))) := RV.out.keep (fun g e => (heap_setOther _ _ (NB0.out g e)).trans (k5 g (RV.out.ge g e).2 (fun g2 e2 q => AP.out g e (q ▸ e2))))
                        have A6 : Hid (∀ g, v0.ownBlock = some g → (Value.slice na (m + 1) nc).ownBlock ≠ some g) := fun g e q => by
                          rcases nn g q with z | z
                          · exact AP.out g e z
                          · have := (RV.out.ge g e).2; omega
                        have SZ6 : Hid (w.heap.size + 1 + 1 + 1 + 1 ≤ (w5.setCell ⟨w.heap.size + 1 + 1 + 1, 1, none⟩ (.slice na (m + 1) nc)).heap.size) := by
                          have := hg5.size
                          rw [sz2] at this
                          show _ ≤ _
                          simp
                          omega
                        have AB6 : Hid (Below w.heap.size w (w5.setCell ⟨w.heap.size + 1 + 1 + 1, 1, none⟩ (.slice na (m + 1) nc))) := (AB.out.trans ((hb1.mono AB.out.size).trans (grown_belowE hg5 (by rw [sz2]; omega) (fun g e => by have := (ob g e).1; omega)))).setCell (by simp; omega) _
                        clear hE5 hg5 hl5 k5 BV5 lc hb1 sz2 ob nn
                        refine wpAnyH_ready (rs := [31]) (by kernel_rfl) (by simp) ?_
                        refine AllReadyH.cons rfl (fun KK hK => ?_) AllReadyH.nil
                        go_simp
                        refine hK.out _ _ H (fun _ => ?_)
                        clear hK KK
                        refine wpAnyH_done (by kernel_rfl) ?_ _
                        refine NoPanic.normal ?_
                        clear H X0 BV RV SV NB0 NB1 AP SZ AB hr5 szu f5 c5
                        have E7 : Hid (Q + 9 = P + 1 + 9 * (m + 1)) := by have := HQ.out; show _ = _; omega
                        have E8 : Hid (J - 1 = x4 - (m + 1) ∧ m + 1 ≤ x4) := by have := HJ.out; exact ⟨by omega, by omega⟩
                        have i8 : J ≤ 255 := by have := HJ.out; omega
                        have i9 : IntKind.i64.wrap ((J : Int) - 1) = ((J - 1 : Nat) : Int) := by rw [IntWalk.i64_in _ (by omega)]; omega
                        clear NA NC ND XR es wV slNA slNC slND
                        change Exit.then _ _ Exit.normal { tmps := #[_, _, _, _, _, _, _, _, _, _, _, _, _, _, _, _, _, _, _, _, _, _, _, _, _, _, _, _, _, _, _, _, _, _, _, _, _, _, _, _, _, _, _, _, _, _, _, _, _, _, _, _, _, _, _, _, _, _, _, _, _, _, _, _, _, _, _, _, _, _, _, _, _, _, _, _, _, _, _, _, _, _, _, _, _, _, _, _, _, _, _, _, _, _, _, _, _, _, _, _, _, _, _, _, _, _, _, _, _, _, _, _, _, _, _, _, _, _, _, _, _, _, _, _, _, _, _, _, _, _], defers := _ } _
                        go_wp2
                        go_roundw
                        case rel => exact ⟨m + 1, _, E8.out.2, by have := E7.out; omega, numEq8 (by have := E7.out; omega), numEq8 (by have := E8.out.1; omega), X6.out, BV6.out, O6.out, E6.out, NB0x.out, N6.out, A6.out, SZ6.out, AB6.out⟩
                        case measure => simp [intOf]; omega
                      · skip
                        go_simp
                        refine hK.out _ _ H (fun _ => ?_)
                        clear hK KK
                        change wpAnyH _ _ _ _ _ _ _ { tmps := #[_,_,_,_,_,_,_,_,_,_,_,_,_,_,_,_,_,_,_,_,_,_,_,_,_,_,_,_,_,_,_,_,_,_,_,_,_,_,_,_,_,_,_,_,_,_,_,_,_,_,_,_,_,_,_,_,_,_,_,_,_,_,_,_,_,_,_,_,_,_,_,_,_,_,_,_,_,_,_,_,_,_,_,_,_,_,_,_,_,_,_,_,_,_,_,_,_,_,_,_,_,_,_,_,_,_,_,_,_,_,_,_,_,_,_,_,_,_,_,_,_,_,_,_,_,_,_,_,_,_], defers := _ } _
                        refine wpAnyH_ready (rs := [1]) (by kernel_rfl) (by simp) ?_
                        refine (AllReadyH.cons rfl (fun KK hK => ?_) AllReadyH.nil)
                        have lb := (BV.out.below ((Below.refl _ _).alloc (Nat.le_refl _) _) : Box2 (y0.alloc (.cells #[.int .i64 (A5 : Int), .int .i64 (A6 : Int), .int .i64 (A7 : Int), .int .i64 (A8 : Int)] 100)) _ _ _ _).c1
                        go_simp
                        refine hK.out _ _ H (fun _ => ?_)
                        clear hK KK lb
                        change wpAnyH _ _ _ _ _ _ _ { tmps := #[_,_,_,_,_,_,_,_,_,_,_,_,_,_,_,_,_,_,_,_,_,_,_,_,_,_,_,_,_,_,_,_,_,_,_,_,_,_,_,_,_,_,_,_,_,_,_,_,_,_,_,_,_,_,_,_,_,_,_,_,_,_,_,_,_,_,_,_,_,_,_,_,_,_,_,_,_,_,_,_,_,_,_,_,_,_,_,_,_,_,_,_,_,_,_,_,_,_,_,_,_,_,_,_,_,_,_,_,_,_,_,_,_,_,_,_,_,_,_,_,_,_,_,_,_,_,_,_,_,_], defers := _ } _
                        have hb1 : Below y0.heap.size y0 (y0.alloc (.cells #[.int .i64 (A5 : Int), .int .i64 (A6 : Int), .int .i64 (A7 : Int), .int .i64 (A8 : Int)] 100)) := (Below.refl _ _).alloc (Nat.le_refl _) _
                        have lc : ∀ j, j < 4 → (y0.alloc (.cells #[.int .i64 (A5 : Int), .int .i64 (A6 : Int), .int .i64 (A7 : Int), .int .i64 (A8 : Int)] 100)).cell? ⟨y0.heap.size, 0 + j, none⟩ = some (seV (⟨(A5 : Int), (A6 : Int), (A7 : Int), (A8 : Int)⟩ : Se) j) := litCells (w := y0) (t := 100) (cs := #[.int .i64 (A5 : Int), .int .i64 (A6 : Int), .int .i64 (A7 : Int), .int .i64 (A8 : Int)]) (m := 4) (seV (⟨(A5 : Int), (A6 : Int), (A7 : Int), (A8 : Int)⟩ : Se)) rfl (fun i hi => by rcases (show i = 0 ∨ i = 1 ∨ i = 2 ∨ i = 3 by omega) with rfl | rfl | rfl | rfl <;> rfl)
                        have szu := SZ.out
                        obtain ⟨nv, w5, hr5, hE5, hg5, hl5⟩ := appSe (y0.alloc (.cells #[.int .i64 (A5 : Int), .int .i64 (A6 : Int), .int .i64 (A7 : Int), .int .i64 (A8 : Int)] 100)) (w.heap.size + 1) v1 m y0.heap.size (pSeO (strB T) (P + 1)) (⟨(A5 : Int), (A6 : Int), (A7 : Int), (A8 : Int)⟩ : Se) (by simp; omega) (by omega) (SV.out.below hb1) lc
                        obtain ⟨na, nc, rfl⟩ := hE5.form
                        refine wpAnyH_ready (rs := [29]) (by kernel_rfl) (by simp) ?_
                        refine AllReadyH.cons rfl (fun KK hK => ?_) AllReadyH.nil
                        rw [if_pos (by rfl)]
                        refine Lib.wp_append_run _ (.tmp 86) (.tmp 113) 44 44 rfl v1 (.slice (some ⟨y0.heap.size, 0, none⟩) 1 1) rfl rfl _ _ (hr5 _) ?_
                        refine hK.out _ _ H (fun _ => ?_)
                        clear hK KK
                        change wpAnyH _ _ _ _ _ _ _ { tmps := #[_,_,_,_,_,_,_,_,_,_,_,_,_,_,_,_,_,_,_,_,_,_,_,_,_,_,_,_,_,_,_,_,_,_,_,_,_,_,_,_,_,_,_,_,_,_,_,_,_,_,_,_,_,_,_,_,_,_,_,_,_,_,_,_,_,_,_,_,_,_,_,_,_,_,_,_,_,_,_,_,_,_,_,_,_,_,_,_,_,_,_,_,_,_,_,_,_,_,_,_,_,_,_,_,_,_,_,_,_,_,_,_,_,_,_,_,_,_,_,_,_,_,_,_,_,_,_,_,_,_], defers := _ } _
                        refine wpAnyH_take (i := 30) (v := .pointer (some ⟨w.heap.size + 1 + 1 + 1, 1, none⟩)) rfl (by kernel_rfl) (by kernel_rfl) (by kernel_rfl) (fun _ _ _ h => h) (Or.inl ⟨by rfl, ?_⟩) H ?_
                        · intro w' hSw; clear hSw; go_simp
                        change wpAnyH _ _ _ _ _ _ _ { tmps := #[_,_,_,_,_,_,_,_,_,_,_,_,_,_,_,_,_,_,_,_,_,_,_,_,_,_,_,_,_,_,_,_,_,_,_,_,_,_,_,_,_,_,_,_,_,_,_,_,_,_,_,_,_,_,_,_,_,_,_,_,_,_,_,_,_,_,_,_,_,_,_,_,_,_,_,_,_,_,_,_,_,_,_,_,_,_,_,_,_,_,_,_,_,_,_,_,_,_,_,_,_,_,_,_,_,_,_,_,_,_,_,_,_,_,_,_,_,_,_,_,_,_,_,_,_,_,_,_,_,_], defers := _ } _
                        have ob : ∀ g, v1.ownBlock = some g → w.heap.size + 1 ≤ g ∧ g ≠ w.heap.size + 1 + 1 + 1 := fun g e => ⟨(SV.out.ge g e).1, NB1.out g e⟩
                        have sz2 : (y0.alloc (.cells #[.int .i64 (A5 : Int), .int .i64 (A6 : Int), .int .i64 (A7 : Int), .int .i64 (A8 : Int)] 100)).heap.size = y0.heap.size + 1 := by simp
                        have k5 : ∀ q, q < y0.heap.size → (∀ g, v1.ownBlock = some g → q ≠ g) → w5.heap[q]? = y0.heap[q]? := fun q hq hn => (grown_block hg5 (by rw [sz2]; omega) hn).trans (hb1.block q hq)
                        have BV5 := BV.out.ofBlock (k5 _ (by omega) (fun g e q => (ob g e).2 q.symm))
                        have f5 := BV5.fr 1
                        have c5 := BV5.c1
                        have X6 : Hid (Box2 (w5.setCell ⟨w.heap.size + 1 + 1 + 1, 1, none⟩ (.slice na (m + 1) nc)) w.heap.size 46 (.slice none 0 0) (.slice none 0 0)) := (X0.out.ofBlock (k5 _ (by omega) (fun g e q => by have := (ob g e).1; omega))).other (by simp; omega) _
                        have BV6 : Hid (Box2 (w5.setCell ⟨w.heap.size + 1 + 1 + 1, 1, none⟩ (.slice na (m + 1) nc)) (w.heap.size + 1 + 1 + 1) 46 v0 (.slice na (m + 1) nc)) := BV5.set1 _
                        have nn : ∀ g, (Value.slice na (m + 1) nc).ownBlock = some g → (v1.ownBlock = some g ∨ g = y0.heap.size + 1) := fun g e => by
                          rcases hl5 with q | q
                          · exact .inl (q.symm.trans e)
                          · right; rw [e] at q; rw [sz2] at q; exact Option.some.inj q
                        have N6 : Hid (∀ g, (Value.slice na (m + 1) nc).ownBlock = some g → g ≠ w.heap.size + 1 + 1 + 1) := fun g e => by
                          rcases nn g e with q | q
                          · exact (ob g q).2
                          · omega
                        have E6 : Hid (EO (w5.setCell ⟨w.heap.size + 1 + 1 + 1, 1, none⟩ (.slice na (m + 1) nc)) (w.heap.size + 1) 100 4 (.slice na (m + 1) nc) (m + 1) (seF (pSeO (strB T) (P + 1)))) := (hE5.keep (fun g e => heap_setOther _ _ (N6.out g e))).congr (fun i hi j hj => by unfold seF updE; by_cases q : i = m; rw [if_pos q, XR.out, q]; rw [if_neg q])
                        have O6 : Hid (EO (w5.setCell ⟨w.heap.size + 1 + 1 + 1, 1, none⟩ (.slice na (m + 1) nc)) (w.heap.size + 1) 54 3 v0 k (rgF (pRg (strB T)))) := RV.out.keep (fun g e => (heap_setOther _ _ (NB0.out g e)).trans (k5 g (RV.out.ge g e).2 (fun g2 e2 q => AP.out g e (q ▸ e2))))
                        have A6 : Hid (∀ g, v0.ownBlock = some g → (Value.slice na (m + 1) nc).ownBlock ≠ some g) := fun g e q => by
                          rcases nn g q with z | z
                          · exact AP.out g e z
                          · have := (RV.out.ge g e).2; omega
                        have SZ6 : Hid (w.heap.size + 1 + 1 + 1 + 1 ≤ (w5.setCell ⟨w.heap.size + 1 + 1 + 1, 1, none⟩ (.slice na (m + 1) nc)).heap.size) := by
                          have := hg5.size
                          rw [sz2] at this
                          show _ ≤ _
                          simp
                          omega
                        have AB6 : Hid (Below w.heap.size w (w5.setCell ⟨w.heap.size + 1 + 1 + 1, 1, none⟩ (.slice na (m + 1) nc))) := (AB.out.trans ((hb1.mono AB.out.size).trans (grown_belowE hg5 (by rw [sz2]; omega) (fun g e => by have := (ob g e).1; omega)))).setCell (by simp; omega) _
                        clear hE5 hg5 hl5 k5 BV5 lc hb1 sz2 ob nn
                        refine wpAnyH_ready (rs := [31]) (by kernel_rfl) (by simp) ?_
                        refine AllReadyH.cons rfl (fun KK hK => ?_) AllReadyH.nil
                        go_simp
                        refine hK.out _ _ H (fun _ => ?_)
                        clear hK KK
                        refine wpAnyH_done (by kernel_rfl) ?_ _
                        refine NoPanic.normal ?_
                        clear H X0 BV RV SV NB0 NB1 AP SZ AB hr5 szu f5 c5
                        have E7 : Hid (Q + 9 = P + 1 + 9 * (m + 1)) := by have := HQ.out; show _ = _; omega
                        have E8 : Hid (J - 1 = x4 - (m + 1) ∧ m + 1 ≤ x4) := by have := HJ.out; exact ⟨by omega, by omega⟩
                        have i8 : J ≤ 255 := by have := HJ.out; omega
                        have i9 : IntKind.i64.wrap ((J : Int) - 1) = ((J - 1 : Nat) : Int) := by rw [IntWalk.i64_in _ (by omega)]; omega
                        clear NA NC ND XR es wV slNA slNC slND
                        change Exit.then _ _ Exit.normal { tmps := #[_, _, _, _, _, _, _, _, _, _, _, _, _, _, _, _, _, _, _, _, _, _, _, _, _, _, _, _, _, _, _, _, _, _, _, _, _, _, _, _, _, _, _, _, _, _, _, _, _, _, _, _, _, _, _, _, _, _, _, _, _, _, _, _, _, _, _, _, _, _, _, _, _, _, _, _, _, _, _, _, _, _, _, _, _, _, _, _, _, _, _, _, _, _, _, _, _, _, _, _, _, _, _, _, _, _, _, _, _, _, _, _, _, _, _, _, _, _, _, _, _, _, _, _, _, _, _, _, _, _], defers := _ } _
                        go_wp2
                        go_roundw
                        case rel => exact ⟨m + 1, _, E8.out.2, by have := E7.out; omega, numEq8 (by have := E7.out; omega), numEq8 (by have := E8.out.1; omega), X6.out, BV6.out, O6.out, E6.out, NB0x.out, N6.out, A6.out, SZ6.out, AB6.out⟩
                        case measure => simp [intOf]; omega
              · have MX : Hid (Whole T.size (strB T) → m = pNs (strB T)) := fun q => by
                  have h1 := KX.out q
                  have h2 := HX4.out h1
                  have h3 := HP.out
                  unfold Whole at q
                  rw [h2, ← h1] at q
                  rw [h2]
                  omega
                rcases (show J = 0 ∨ (0 < J ∧ T.size < Q + 9) by omega) with hz | ⟨hz, hz2⟩
                · subst hz
                  clear hQ hJ hlt
                  obtain ⟨ra, rc, rfl⟩ := RV.out.form
                  obtain ⟨sa, sc, rfl⟩ := SV.out.form
                  have EK : Hid ((⟨k, pRg (strB T), m, pSeO (strB T) (P + 1)⟩ : Bk) = pK (strB T) k m) := by show _ = _; unfold pK; rw [HP.out]
                  have BO : Hid (∀ v : World, BankV v (pK (strB T) k m) ra sa → Calls Tryd.prog 62 #[.agg #[.slice ra k rc, .slice sa m sc]] v fun e w' => e = .returned (.bool (okB (pK (strB T) k m).Ok)) ∧ Below v.heap.size v w') := fun v h => specBankOK_any (pK (strB T) k m) ra sa rc sc v h
                  have LB : Hid (∀ v : World, (pK (strB T) k m).Ok → BankV v (pK (strB T) k m) ra sa → Calls Tryd.prog 63 #[.agg #[.slice ra k rc, .slice sa m sc]] v fun e w' => (∃ g c, e = .returned (.slice (some ⟨g, 0, none⟩) (bankL (pK (strB T) k m)).length c) ∧ RL w' v.heap.size g c (bankL (pK (strB T) k m))) ∧ Below v.heap.size v w') := fun v hk h => l08Bytes_any (pK (strB T) k m) hk ra sa rc sc v h
                  have BVV : Hid (BankV wr (pK (strB T) k m) ra sa) := by
                    have h1 := SV.out.els
                    refine ⟨RV.out.els, ?_⟩
                    show Els wr 4 sa m (seF (pSeO (strB T) (1 + 37 * k + 1)))
                    rw [← HP.out]
                    exact h1
                  have HOK : Hid ((pK (strB T) k m).Ok ∨ ¬ (pK (strB T) k m).Ok) := Classical.em _
                  have PE : Hid (Whole T.size (strB T) → pK (strB T) k m = pB (strB T)) := fun q => by rw [pB_K, ← KX.out q, ← MX.out q]
                  have b0 := BV.out.c0
                  have b1 := BV.out.c1
                  go_wp2_with fail
                  refine (BO.out _ BVV.out).mono ?_
                  rintro e y1 ⟨rfl, hb⟩
                  clear b0 b1 BO
                  replace X0 : Hid (Box2 y1 w.heap.size 46 (.slice none 0 0) (.slice none 0 0)) := X0.out.below hb
                  replace BV : Hid (Box2 y1 (w.heap.size + 1 + 1 + 1) 46 (.slice ra k rc) (.slice sa m sc)) := BV.out.below hb
                  replace RV : Hid (EO y1 (w.heap.size + 1) 54 3 (.slice ra k rc) k (rgF (pRg (strB T)))) := RV.out.below hb
                  replace SV : Hid (EO y1 (w.heap.size + 1) 100 4 (.slice sa m sc) m (seF (pSeO (strB T) (P + 1)))) := SV.out.below hb
                  replace SZ : Hid (w.heap.size + 1 + 1 + 1 + 1 ≤ y1.heap.size) := Nat.le_trans SZ.out hb.size
                  replace AB : Hid (Below w.heap.size w y1) := AB.out.trans (hb.mono AB.out.size)
                  replace BVV : Hid (BankV y1 (pK (strB T) k m) ra sa) := BVV.out.below hb
                  clear hb
                  rcases HOK.out with hk9 | hk9
                  · rw [okB_yes hk9]
                    have LH := LB.out
                    have b0 := BV.out.c0
                    have b1 := BV.out.c1
                    have HK9 : Hid ((pK (strB T) k m).Ok) := hk9
                    clear hk9 HOK LH
                    go_wp2_with fail
                    refine (LB.out _ HK9.out BVV.out).mono ?_
                    rintro e y2 ⟨⟨g, gc, rfl, hrl⟩, hb⟩
                    clear b0 b1 LB
                    have hcv : (convert 40 9 (.slice (some ⟨g, 0, none⟩) (bankL (pK (strB T) k m)).length gc)).run Tryd.prog y2 = .ok (.string (kstr (fun i => (bankL (pK (strB T) k m)).getD i 0) 0 (bankL (pK (strB T) k m)).length)) y2 := kstr_of_code (code8_of_RL hrl)
                    replace X0 : Hid (Box2 y2 w.heap.size 46 (.slice none 0 0) (.slice none 0 0)) := X0.out.below hb
                    replace BV : Hid (Box2 y2 (w.heap.size + 1 + 1 + 1) 46 (.slice ra k rc) (.slice sa m sc)) := BV.out.below hb
                    replace RV : Hid (EO y2 (w.heap.size + 1) 54 3 (.slice ra k rc) k (rgF (pRg (strB T)))) := RV.out.below hb
                    replace SV : Hid (EO y2 (w.heap.size + 1) 100 4 (.slice sa m sc) m (seF (pSeO (strB T) (P + 1)))) := SV.out.below hb
                    replace SZ : Hid (w.heap.size + 1 + 1 + 1 + 1 ≤ y2.heap.size) := Nat.le_trans SZ.out hb.size
                    replace AB : Hid (Below w.heap.size w y2) := AB.out.trans (hb.mono AB.out.size)
                    replace BVV : Hid (BankV y2 (pK (strB T) k m) ra sa) := BVV.out.below hb
                    clear hb hrl
                    have TN := text_no (bankL (pK (strB T) k m)) T (fun i => bankL_lt HF.out k m (by omega) (by omega) i)
                    have TY := text_yes (bankL (pK (strB T) k m)) T
                    have TNH : Hid (kstr (fun i => (bankL (pK (strB T) k m)).getD i 0) 0 (bankL (pK (strB T) k m)).length = T → bankL (pK (strB T) k m) = seg (strB T) 0 T.size) := TN
                    have TYH : Hid (bankL (pK (strB T) k m) = seg (strB T) 0 T.size → kstr (fun i => (bankL (pK (strB T) k m)).getD i 0) 0 (bankL (pK (strB T) k m)).length = T) := TY
                    clear TN TY
                    generalize hU : kstr (fun i => (bankL (pK (strB T) k m)).getD i 0) 0 (bankL (pK (strB T) k m)).length = U at *
                    clear hU
                    generalize (bankL (pK (strB T) k m)).length = nl at *
                    by_cases hT : U = T
                    · have WW := whole_of (hF := HF.out) (TNH.out hT)
                      have GD : Hid (Whole T.size (strB T) ∧ (pB (strB T)).Ok) := ⟨WW.2.2, by rw [← PE.out WW.2.2]; exact HK9.out⟩
                      have WH : Hid (k = pNr (strB T) ∧ m = pNs (strB T)) := ⟨WW.1, WW.2.1⟩
                      subst hT
                      clear WW TNH TYH PE MX KX HX4 HK9
                      have b0 := BV.out.c0
                      have b1 := BV.out.c1
                      have r0 := X0.out.c0
                      have r1 := X0.out.c1
                      have f0 := X0.out.fr 0
                      have f1 := X0.out.fr 1
                      go_wp2
                      have Y : Box2 ((y2.setCell ⟨w.heap.size, 0, none⟩ (.slice ra k rc)).setCell ⟨w.heap.size, 1, none⟩ (.slice sa m sc)) w.heap.size 46 (.slice ra k rc) (.slice sa m sc) := (X0.out.set0 _).set1 _
                      have kk : ∀ q, w.heap.size + 1 ≤ q → (((y2.setCell ⟨w.heap.size, 0, none⟩ (.slice ra k rc)).setCell ⟨w.heap.size, 1, none⟩ (.slice sa m sc))).heap[q]? = y2.heap[q]? := fun q hq => (heap_setOther _ _ (by show q ≠ w.heap.size; omega)).trans (heap_setOther _ _ (by show q ≠ w.heap.size; omega))
                      refine ret_cell2 (b := w.heap.size) Tryd.results29 rfl rfl (Box2.loadB Y) ⟨.inl ⟨GD.out, ?_⟩, (AB.out.setCell (by simp) _).setCell (by simp) _⟩
                      obtain ⟨i2, i4⟩ := WH.out
                      have RR := RV.out.keep (w' := ((y2.setCell ⟨w.heap.size, 0, none⟩ (.slice ra k rc)).setCell ⟨w.heap.size, 1, none⟩ (.slice sa m sc))) (fun q e => kk q (RV.out.ge q e).1)
                      have SS := SV.out.keep (w' := ((y2.setCell ⟨w.heap.size, 0, none⟩ (.slice ra k rc)).setCell ⟨w.heap.size, 1, none⟩ (.slice sa m sc))) (fun q e => kk q (SV.out.ge q e).1)
                      have AQ := AP.out
                      unfold RetBk
                      rw [pB_K, ← i2, ← i4]
                      unfold pK
                      dsimp only
                      rw [← HP.out]
                      exact ⟨ra, rc, sa, sc, rfl, ownsRow_monoE RR (by omega), ownsRow_monoE SS (by omega), AQ⟩
                    · have hT3 : ¬ U.toList = T.toList := fun e => hT (ba_ext (by rw [ByteArray.toList_eq, ByteArray.toList_eq] at e; exact e))
                      have hT2 : (U.toList == T.toList) = false := by simpa using hT3
                      have GD : Hid (¬ (Whole T.size (strB T) ∧ (pB (strB T)).Ok)) := fun q => hT (TYH.out (by rw [PE.out q.1]; exact bytes_whole (strB T) HF.out T.size q.1))
                      have r0 := X0.out.c0
                      have r1 := X0.out.c1
                      have f0 := X0.out.fr 0
                      have f1 := X0.out.fr 1
                      clear TNH TYH PE MX KX HX4 HK9
                      go_wp2
                      exact ret_cell2 (b := w.heap.size) Tryd.results29 rfl rfl (Box2.loadB ((X0.out.set0 _).set1 _)) ⟨.inr ⟨GD.out, rfl⟩, (AB.out.setCell (by simp) _).setCell (by simp) _⟩
                  · rw [okB_no hk9]
                    have GD : Hid (¬ (Whole T.size (strB T) ∧ (pB (strB T)).Ok)) := fun q => hk9 (by rw [PE.out q.1]; exact q.2)
                    have r0 := X0.out.c0
                    have r1 := X0.out.c1
                    have f0 := X0.out.fr 0
                    have f1 := X0.out.fr 1
                    clear hk9 HOK LB PE MX KX HX4
                    go_wp2
                    exact ret_cell2 (b := w.heap.size) Tryd.results29 rfl rfl (Box2.loadB ((X0.out.set0 _).set1 _)) ⟨.inr ⟨GD.out, rfl⟩, (AB.out.setCell (by simp) _).setCell (by simp) _⟩
                · have z3 : (0 : Int) < (J : Int) := by omega
                  have z4 : ¬ (Q : Int) + 9 ≤ (T.size : Int) := by omega
                  clear hQ hJ hlt hz hz2
                  obtain ⟨ra, rc, rfl⟩ := RV.out.form
                  obtain ⟨sa, sc, rfl⟩ := SV.out.form
                  have EK : Hid ((⟨k, pRg (strB T), m, pSeO (strB T) (P + 1)⟩ : Bk) = pK (strB T) k m) := by show _ = _; unfold pK; rw [HP.out]
                  have BO : Hid (∀ v : World, BankV v (pK (strB T) k m) ra sa → Calls Tryd.prog 62 #[.agg #[.slice ra k rc, .slice sa m sc]] v fun e w' => e = .returned (.bool (okB (pK (strB T) k m).Ok)) ∧ Below v.heap.size v w') := fun v h => specBankOK_any (pK (strB T) k m) ra sa rc sc v h
                  have LB : Hid (∀ v : World, (pK (strB T) k m).Ok → BankV v (pK (strB T) k m) ra sa → Calls Tryd.prog 63 #[.agg #[.slice ra k rc, .slice sa m sc]] v fun e w' => (∃ g c, e = .returned (.slice (some ⟨g, 0, none⟩) (bankL (pK (strB T) k m)).length c) ∧ RL w' v.heap.size g c (bankL (pK (strB T) k m))) ∧ Below v.heap.size v w') := fun v hk h => l08Bytes_any (pK (strB T) k m) hk ra sa rc sc v h
                  have BVV : Hid (BankV wr (pK (strB T) k m) ra sa) := by
                    have h1 := SV.out.els
                    refine ⟨RV.out.els, ?_⟩
                    show Els wr 4 sa m (seF (pSeO (strB T) (1 + 37 * k + 1)))
                    rw [← HP.out]
                    exact h1
                  have HOK : Hid ((pK (strB T) k m).Ok ∨ ¬ (pK (strB T) k m).Ok) := Classical.em _
                  have PE : Hid (Whole T.size (strB T) → pK (strB T) k m = pB (strB T)) := fun q => by rw [pB_K, ← KX.out q, ← MX.out q]
                  have b0 := BV.out.c0
                  have b1 := BV.out.c1
                  go_wp2_with fail
                  refine (BO.out _ BVV.out).mono ?_
                  rintro e y1 ⟨rfl, hb⟩
                  clear b0 b1 BO
                  replace X0 : Hid (Box2 y1 w.heap.size 46 (.slice none 0 0) (.slice none 0 0)) := X0.out.below hb
                  replace BV : Hid (Box2 y1 (w.heap.size + 1 + 1 + 1) 46 (.slice ra k rc) (.slice sa m sc)) := BV.out.below hb
                  replace RV : Hid (EO y1 (w.heap.size + 1) 54 3 (.slice ra k rc) k (rgF (pRg (strB T)))) := RV.out.below hb
                  replace SV : Hid (EO y1 (w.heap.size + 1) 100 4 (.slice sa m sc) m (seF (pSeO (strB T) (P + 1)))) := SV.out.below hb
                  replace SZ : Hid (w.heap.size + 1 + 1 + 1 + 1 ≤ y1.heap.size) := Nat.le_trans SZ.out hb.size
                  replace AB : Hid (Below w.heap.size w y1) := AB.out.trans (hb.mono AB.out.size)
                  replace BVV : Hid (BankV y1 (pK (strB T) k m) ra sa) := BVV.out.below hb
                  clear hb
                  rcases HOK.out with hk9 | hk9
                  · rw [okB_yes hk9]
                    have LH := LB.out
                    have b0 := BV.out.c0
                    have b1 := BV.out.c1
                    have HK9 : Hid ((pK (strB T) k m).Ok) := hk9
                    clear hk9 HOK LH
                    go_wp2_with fail
                    refine (LB.out _ HK9.out BVV.out).mono ?_
                    rintro e y2 ⟨⟨g, gc, rfl, hrl⟩, hb⟩
                    clear b0 b1 LB
                    have hcv : (convert 40 9 (.slice (some ⟨g, 0, none⟩) (bankL (pK (strB T) k m)).length gc)).run Tryd.prog y2 = .ok (.string (kstr (fun i => (bankL (pK (strB T) k m)).getD i 0) 0 (bankL (pK (strB T) k m)).length)) y2 := kstr_of_code (code8_of_RL hrl)
                    replace X0 : Hid (Box2 y2 w.heap.size 46 (.slice none 0 0) (.slice none 0 0)) := X0.out.below hb
                    replace BV : Hid (Box2 y2 (w.heap.size + 1 + 1 + 1) 46 (.slice ra k rc) (.slice sa m sc)) := BV.out.below hb
                    replace RV : Hid (EO y2 (w.heap.size + 1) 54 3 (.slice ra k rc) k (rgF (pRg (strB T)))) := RV.out.below hb
                    replace SV : Hid (EO y2 (w.heap.size + 1) 100 4 (.slice sa m sc) m (seF (pSeO (strB T) (P + 1)))) := SV.out.below hb
                    replace SZ : Hid (w.heap.size + 1 + 1 + 1 + 1 ≤ y2.heap.size) := Nat.le_trans SZ.out hb.size
                    replace AB : Hid (Below w.heap.size w y2) := AB.out.trans (hb.mono AB.out.size)
                    replace BVV : Hid (BankV y2 (pK (strB T) k m) ra sa) := BVV.out.below hb
                    clear hb hrl
                    have TN := text_no (bankL (pK (strB T) k m)) T (fun i => bankL_lt HF.out k m (by omega) (by omega) i)
                    have TY := text_yes (bankL (pK (strB T) k m)) T
                    have TNH : Hid (kstr (fun i => (bankL (pK (strB T) k m)).getD i 0) 0 (bankL (pK (strB T) k m)).length = T → bankL (pK (strB T) k m) = seg (strB T) 0 T.size) := TN
                    have TYH : Hid (bankL (pK (strB T) k m) = seg (strB T) 0 T.size → kstr (fun i => (bankL (pK (strB T) k m)).getD i 0) 0 (bankL (pK (strB T) k m)).length = T) := TY
                    clear TN TY
                    generalize hU : kstr (fun i => (bankL (pK (strB T) k m)).getD i 0) 0 (bankL (pK (strB T) k m)).length = U at *
                    clear hU
                    generalize (bankL (pK (strB T) k m)).length = nl at *
                    by_cases hT : U = T
                    · have WW := whole_of (hF := HF.out) (TNH.out hT)
                      have GD : Hid (Whole T.size (strB T) ∧ (pB (strB T)).Ok) := ⟨WW.2.2, by rw [← PE.out WW.2.2]; exact HK9.out⟩
                      have WH : Hid (k = pNr (strB T) ∧ m = pNs (strB T)) := ⟨WW.1, WW.2.1⟩
                      subst hT
                      clear WW TNH TYH PE MX KX HX4 HK9
                      have b0 := BV.out.c0
                      have b1 := BV.out.c1
                      have r0 := X0.out.c0
                      have r1 := X0.out.c1
                      have f0 := X0.out.fr 0
                      have f1 := X0.out.fr 1
                      go_wp2
                      have Y : Box2 ((y2.setCell ⟨w.heap.size, 0, none⟩ (.slice ra k rc)).setCell ⟨w.heap.size, 1, none⟩ (.slice sa m sc)) w.heap.size 46 (.slice ra k rc) (.slice sa m sc) := (X0.out.set0 _).set1 _
                      have kk : ∀ q, w.heap.size + 1 ≤ q → (((y2.setCell ⟨w.heap.size, 0, none⟩ (.slice ra k rc)).setCell ⟨w.heap.size, 1, none⟩ (.slice sa m sc))).heap[q]? = y2.heap[q]? := fun q hq => (heap_setOther _ _ (by show q ≠ w.heap.size; omega)).trans (heap_setOther _ _ (by show q ≠ w.heap.size; omega))
                      refine ret_cell2 (b := w.heap.size) Tryd.results29 rfl rfl (Box2.loadB Y) ⟨.inl ⟨GD.out, ?_⟩, (AB.out.setCell (by simp) _).setCell (by simp) _⟩
                      obtain ⟨i2, i4⟩ := WH.out
                      have RR := RV.out.keep (w' := ((y2.setCell ⟨w.heap.size, 0, none⟩ (.slice ra k rc)).setCell ⟨w.heap.size, 1, none⟩ (.slice sa m sc))) (fun q e => kk q (RV.out.ge q e).1)
                      have SS := SV.out.keep (w' := ((y2.setCell ⟨w.heap.size, 0, none⟩ (.slice ra k rc)).setCell ⟨w.heap.size, 1, none⟩ (.slice sa m sc))) (fun q e => kk q (SV.out.ge q e).1)
                      have AQ := AP.out
                      unfold RetBk
                      rw [pB_K, ← i2, ← i4]
                      unfold pK
                      dsimp only
                      rw [← HP.out]
                      exact ⟨ra, rc, sa, sc, rfl, ownsRow_monoE RR (by omega), ownsRow_monoE SS (by omega), AQ⟩
                    · have hT3 : ¬ U.toList = T.toList := fun e => hT (ba_ext (by rw [ByteArray.toList_eq, ByteArray.toList_eq] at e; exact e))
                      have hT2 : (U.toList == T.toList) = false := by simpa using hT3
                      have GD : Hid (¬ (Whole T.size (strB T) ∧ (pB (strB T)).Ok)) := fun q => hT (TYH.out (by rw [PE.out q.1]; exact bytes_whole (strB T) HF.out T.size q.1))
                      have r0 := X0.out.c0
                      have r1 := X0.out.c1
                      have f0 := X0.out.fr 0
                      have f1 := X0.out.fr 1
                      clear TNH TYH PE MX KX HX4 HK9
                      go_wp2
                      exact ret_cell2 (b := w.heap.size) Tryd.results29 rfl rfl (Box2.loadB ((X0.out.set0 _).set1 _)) ⟨.inr ⟨GD.out, rfl⟩, (AB.out.setCell (by simp) _).setCell (by simp) _⟩
                  · rw [okB_no hk9]
                    have GD : Hid (¬ (Whole T.size (strB T) ∧ (pB (strB T)).Ok)) := fun q => hk9 (by rw [PE.out q.1]; exact q.2)
                    have r0 := X0.out.c0
                    have r1 := X0.out.c1
                    have f0 := X0.out.fr 0
                    have f1 := X0.out.fr 1
                    clear hk9 HOK LB PE MX KX HX4
                    go_wp2
                    exact ret_cell2 (b := w.heap.size) Tryd.results29 rfl rfl (Box2.loadB ((X0.out.set0 _).set1 _)) ⟨.inr ⟨GD.out, rfl⟩, (AB.out.setCell (by simp) _).setCell (by simp) _⟩
end Go.Proofs.YtpngjkhncfbnpaaDoor
