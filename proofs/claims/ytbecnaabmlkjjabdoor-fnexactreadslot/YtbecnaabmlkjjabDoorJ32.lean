/-
  ReadSlot: the program, the model, and its exact law.
-/
import Derived.Test.YtbecnaabmlkjjabDoorJ31
import Derived.Test.YtbecnaabmlkjjabDoorJ02
import Derived.Test.YtbecnaabmlkjjabDoorJ05
namespace Go.Proofs.YtbecnaabmlkjjabDoor
open Go.ChangeShapes Go.WideShapes Go.ChangeAt Go.RowKit
set_option linter.unusedVariables false
theorem rdS_short (k : ByteArray) (p n : Nat) (f : Nat → Nat) (h : n < 20) : rdS k p n f = false := by unfold rdS; rw [decide_eq_false (by omega), Bool.false_and]
theorem unsealed_any (k : ByteArray) (p : Nat) (a : Option Addr) (n c : Nat) (f : Nat → Nat) (hf : ∀ i, f i < 256) (hk : k.size = 32) (hp : p < 4294967296) (hn : n ≤ 65536) (hcap : n ≤ c) (w : World) (hc : Code8 w a n f) (ht : Tabs w) :
    Calls Tryd.prog 23 #[.string k, .int .i64 (p : Int), .slice a n c] w fun e w' => e = .returned (.tuple #[.agg #[.int .i64 (rdE k p n f), .string (rdD k p n f)], .int .i64 (rdC k p n f)]) ∧ Below w.heap.size w w' := by
  by_cases h20 : n < 20
  · obtain ⟨e1, e2, e3⟩ := rd_no (rdS_short k p n f h20)
    rw [e1, e2, e3]
    by_cases h4 : n < 4
    · exact unsealed_short k p a n c h4 w
    · obtain ⟨b, o, rfl, -⟩ := hc.opened (by omega)
      exact unsealed_mid k p b o n c f hf hk hp (by omega) h20 hcap w hc ht
  · obtain ⟨m, rfl⟩ : ∃ m, n = m + 20 := ⟨n - 20, by omega⟩
    obtain ⟨b, o, rfl, -⟩ := hc.opened (by omega)
    exact unsealed_long k p b o m c f hf hk hp (by omega) hcap w hc ht
theorem l06Read_any (k : ByteArray) (p : Nat) (t : ByteArray) (hk : k.size = 32) (hp : p < 4294967296) (hn : t.size ≤ 65536) (w : World) :
    Calls Tryd.prog 22 #[.string k, .int .i64 (p : Int), .string t] w fun e w' => e = .returned (.tuple #[.agg #[.int .i64 (rdE k p t.size (strB t)), .string (rdD k p t.size (strB t))], .bool (rdS k p t.size (strB t))]) ∧ Below w.heap.size w w' := by
  by_cases h20 : t.size < 20
  · have h := rdS_short k p t.size (strB t) h20
    obtain ⟨e1, e2, -⟩ := rd_no h
    rw [e1, e2, h]
    exact l06Read_short k p t h20 w
  · exact l06Read_long k p (t.size - 20) t hk hp (by omega) (by omega) w
theorem bool_cases (P : Prop) : ∃ r : Bool, r = true ↔ P := by
  by_cases h : P
  · exact ⟨true, fun _ => h, fun _ => rfl⟩
  · exact ⟨false, fun q => (by cases q), fun q => absurd q h⟩
theorem isPlace_any (p : Int) (r : Bool) (hr : r = true ↔ (0 ≤ p ∧ p ≤ 1)) (w : World) :
    Calls Tryd.prog 20 #[.int .i64 p] w fun e w' => e = .returned (.bool r) ∧ w = w' := by
  by_cases h1 : 0 ≤ p
  · by_cases h2 : p < 2
    · obtain rfl : r = true := hr.2 (by omega)
      clear hr
      go_enter Tryd.func20, Tryd.ntmps20
      go_wp2
      go_ret
      exact ⟨rfl, rfl⟩
    · obtain rfl : r = false := Bool.eq_false_iff.2 (fun h => by have := hr.1 h; omega)
      clear hr
      go_enter Tryd.func20, Tryd.ntmps20
      go_wp2
      go_ret
      exact ⟨rfl, rfl⟩
  · obtain rfl : r = false := Bool.eq_false_iff.2 (fun h => by have := hr.1 h; omega)
    clear hr
    go_enter Tryd.func20, Tryd.ntmps20
    go_wp2
    go_ret
    exact ⟨rfl, rfl⟩
/-- What ReadSlot answers. -/
def RdAns (k : ByteArray) (p : Int) (n : Nat) (f : Nat → Nat) (E : Int) (D : ByteArray) (code : Int) : Prop :=
  (¬ (k.size ≤ 65536 ∧ n ≤ 65536) ∧ E = 0 ∧ D = ⟨#[]⟩ ∧ code = 2) ∨ (k.size ≤ 65536 ∧ n ≤ 65536 ∧ k.size ≠ 32 ∧ E = 0 ∧ D = ⟨#[]⟩ ∧ code = 1) ∨ (k.size = 32 ∧ n ≤ 65536 ∧ ¬ (0 ≤ p ∧ p ≤ 1) ∧ E = 0 ∧ D = ⟨#[]⟩ ∧ code = 4) ∨ (k.size = 32 ∧ n ≤ 65536 ∧ ∃ q : Nat, p = (q : Int) ∧ q < 2 ∧ E = rdE k q n f ∧ D = rdD k q n f ∧ code = rdC k q n f)
theorem rdAns_ex (k : ByteArray) (p : Int) (n : Nat) (f : Nat → Nat) : ∃ E D code, RdAns k p n f E D code := by
  by_cases h1 : k.size ≤ 65536 ∧ n ≤ 65536
  · by_cases h2 : k.size = 32
    · by_cases h3 : 0 ≤ p ∧ p ≤ 1
      · exact ⟨_, _, _, .inr (.inr (.inr ⟨h2, h1.2, p.toNat, by omega, by omega, rfl, rfl, rfl⟩))⟩
      · exact ⟨_, _, _, .inr (.inr (.inl ⟨h2, h1.2, h3, rfl, rfl, rfl⟩))⟩
    · exact ⟨_, _, _, .inr (.inl ⟨h1.1, h1.2, h2, rfl, rfl, rfl⟩)⟩
  · exact ⟨_, _, _, .inl ⟨h1, rfl, rfl, rfl⟩⟩
set_option maxRecDepth 100000 in
set_option maxHeartbeats 2000000 in
theorem implReadSlot_any (k : ByteArray) (p : Int) (a : Option Addr) (n c : Nat) (f : Nat → Nat) (E : Int) (D : ByteArray) (code : Int) (hr : RdAns k p n f E D code) (hf : ∀ i, f i < 256) (hcap : n ≤ c) (w : World) (hc : Code8 w a n f) (ht : Tabs w) :
    Calls Tryd.prog 14 #[.string k, .int .i64 p, .slice a n c] w fun e w' => e = .returned (.tuple #[.agg #[.int .i64 E, .string D], .int .i64 code]) ∧ Below w.heap.size w w' := by
  have A1 : Hid (Below w.heap.size w (w.alloc (.cells #[.int .i64 0, .string ⟨#[]⟩] 28))) := (Below.refl _ _).alloc (Nat.le_refl _) _
  rcases hr with ⟨h1, rfl, rfl, rfl⟩ | ⟨h1, h2, h3, rfl, rfl, rfl⟩ | ⟨h1, h2, h3, rfl, rfl, rfl⟩ | ⟨h1, h2, q, rfl, h3, rfl, rfl, rfl⟩
  · clear hc ht hf
    by_cases hk : k.size ≤ 65536
    · have x1 : ¬ (65536 : Int) < (k.size : Int) := by omega
      have x2 : (65536 : Int) < (n : Int) := by omega
      clear hk h1
      go_enter Tryd.func14, Tryd.ntmps14
      go_wp2
      exact retCell2 (b := w.heap.size) (v := .agg #[.int .i64 0, .string ⟨#[]⟩]) Tryd.results14 rfl rfl (by go_simp) ⟨rfl, A1.out⟩
    · have x1 : (65536 : Int) < (k.size : Int) := by omega
      clear hk h1
      go_enter Tryd.func14, Tryd.ntmps14
      go_wp2
      exact retCell2 (b := w.heap.size) (v := .agg #[.int .i64 0, .string ⟨#[]⟩]) Tryd.results14 rfl rfl (by go_simp) ⟨rfl, A1.out⟩
  · have x1 : ¬ (65536 : Int) < (k.size : Int) := by omega
    have x2 : ¬ (65536 : Int) < (n : Int) := by omega
    have x3 : ((k.size : Int) != 32) = true := by rw [bne_iff_ne]; omega
    clear hc ht hf h1 h2 h3
    go_enter Tryd.func14, Tryd.ntmps14
    go_wp2
    exact retCell2 (b := w.heap.size) (v := .agg #[.int .i64 0, .string ⟨#[]⟩]) Tryd.results14 rfl rfl (by go_simp) ⟨rfl, A1.out⟩
  · have PL : Hid (∀ w : World, Calls Tryd.prog 20 #[.int .i64 p] w fun e w' => e = .returned (.bool false) ∧ w = w') := fun w => isPlace_any p false ⟨fun q => (by cases q), fun q => absurd q h3⟩ w
    have x1 : ¬ (65536 : Int) < (k.size : Int) := by omega
    have x2 : ¬ (65536 : Int) < (n : Int) := by omega
    have x3 : ((k.size : Int) != 32) = false := by rw [h1]; rfl
    clear hc ht hf h1 h2 h3
    go_enter Tryd.func14, Tryd.ntmps14
    go_wp2_with fail
    refine (PL.out _).mono ?_
    rintro e v1 ⟨rfl, rfl⟩
    go_wp2
    exact retCell2 (b := w.heap.size) (v := .agg #[.int .i64 0, .string ⟨#[]⟩]) Tryd.results14 rfl rfl (by go_simp) ⟨rfl, A1.out⟩
  · have PL : Hid (∀ w : World, Calls Tryd.prog 20 #[.int .i64 (q : Int)] w fun e w' => e = .returned (.bool true) ∧ w = w') := fun w => isPlace_any _ true ⟨fun _ => by omega, fun _ => rfl⟩ w
    have UN : Hid (∀ w : World, Code8 w a n f → Tabs w → Calls Tryd.prog 23 #[.string k, .int .i64 (q : Int), .slice a n c] w fun e w' => e = .returned (.tuple #[.agg #[.int .i64 (rdE k q n f), .string (rdD k q n f)], .int .i64 (rdC k q n f)]) ∧ Below w.heap.size w w') := fun w h1' h2' => unsealed_any k q a n c f hf h1 (by omega) h2 hcap w h1' h2'
    have x1 : ¬ (65536 : Int) < (k.size : Int) := by omega
    have x2 : ¬ (65536 : Int) < (n : Int) := by omega
    have x3 : ((k.size : Int) != 32) = false := by rw [h1]; rfl
    have HC : Hid (Code8 w a n f) := hc
    have HT : Hid (Tabs w) := ht
    have Z0 : Hid (Sl2 w.heap.size 0 ⟨#[]⟩ (w.alloc (.cells #[.int .i64 0, .string ⟨#[]⟩] 28))) := Sl2.made w _ _ _
    generalize rdE k q n f = RE at *
    generalize rdD k q n f = RD at *
    generalize rdC k q n f = RC at *
    clear hc ht hf h1 h2 h3 hcap
    go_enter Tryd.func14, Tryd.ntmps14
    go_wp2_with fail
    generalize (w.alloc (.cells #[.int .i64 0, .string ⟨#[]⟩] 28)) = v0 at *
    refine (PL.out _).mono ?_
    rintro e v1 ⟨rfl, rfl⟩
    go_wp2_with fail
    refine (UN.out _ (HC.out.below A1.out) (HT.out.below A1.out)).mono ?_
    rintro e v2 ⟨rfl, hb⟩
    replace A1 : Hid (Below w.heap.size w v2) := A1.out.trans (hb.mono A1.out.size)
    have Z1 := Z0.out.below hb
    have z0 := Z1.c0
    have z1 := Z1.c1
    have z2 := Z1.fr 0
    have z3 := Z1.fr 1
    clear hb Z1 Z0 UN PL HC HT
    go_wp2
    exact retCell2 (b := w.heap.size) (v := .agg #[.int .i64 RE, .string RD]) Tryd.results14 rfl rfl (by go_simp) ⟨rfl, (A1.out.setCell (Nat.le_refl _) _).setCell (Nat.le_refl _) _⟩
set_option maxRecDepth 100000 in
set_option maxHeartbeats 2000000 in
theorem specReadSlot_any (k : ByteArray) (p : Int) (a : Option Addr) (n c : Nat) (t : ByteArray) (E : Int) (D : ByteArray) (code : Int) (hn : t.size = n) (hr : RdAns k p n (strB t) E D code) (w : World) (hc : Code8 w a n (strB t)) :
    Calls Tryd.prog 12 #[.string k, .int .i64 p, .slice a n c] w fun e w' => e = .returned (.tuple #[.agg #[.int .i64 E, .string D], .int .i64 code]) ∧ Below w.heap.size w w' := by
  have A1 : Hid (Below w.heap.size w (w.alloc (.cells #[.int .i64 0, .string ⟨#[]⟩] 28))) := (Below.refl _ _).alloc (Nat.le_refl _) _
  rcases hr with ⟨h1, rfl, rfl, rfl⟩ | ⟨h1, h2, h3, rfl, rfl, rfl⟩ | ⟨h1, h2, h3, rfl, rfl, rfl⟩ | ⟨h1, h2, q, rfl, h3, rfl, rfl, rfl⟩
  · clear hc hn
    by_cases hk : k.size ≤ 65536
    · have x1 : ¬ (65536 : Int) < (k.size : Int) := by omega
      have x2 : (65536 : Int) < (n : Int) := by omega
      clear hk h1
      go_enter Tryd.func12, Tryd.ntmps12
      go_wp2
      exact retCell2 (b := w.heap.size) (v := .agg #[.int .i64 0, .string ⟨#[]⟩]) Tryd.results12 rfl rfl (by go_simp) ⟨rfl, A1.out⟩
    · have x1 : (65536 : Int) < (k.size : Int) := by omega
      clear hk h1
      go_enter Tryd.func12, Tryd.ntmps12
      go_wp2
      exact retCell2 (b := w.heap.size) (v := .agg #[.int .i64 0, .string ⟨#[]⟩]) Tryd.results12 rfl rfl (by go_simp) ⟨rfl, A1.out⟩
  · have x1 : ¬ (65536 : Int) < (k.size : Int) := by omega
    have x2 : ¬ (65536 : Int) < (n : Int) := by omega
    have x3 : ((k.size : Int) != 32) = true := by rw [bne_iff_ne]; omega
    clear hc hn h1 h2 h3
    go_enter Tryd.func12, Tryd.ntmps12
    go_wp2
    exact retCell2 (b := w.heap.size) (v := .agg #[.int .i64 0, .string ⟨#[]⟩]) Tryd.results12 rfl rfl (by go_simp) ⟨rfl, A1.out⟩
  · have PL : Hid (∀ w : World, Calls Tryd.prog 17 #[.int .i64 p, .int .i64 0, .int .i64 1] w fun e w' => e = .returned (.bool false) ∧ w = w') := fun w => in_any p 0 1 false (decide_eq_false h3).symm w
    have x1 : ¬ (65536 : Int) < (k.size : Int) := by omega
    have x2 : ¬ (65536 : Int) < (n : Int) := by omega
    have x3 : ((k.size : Int) != 32) = false := by rw [h1]; rfl
    clear hc hn h1 h2 h3
    go_enter Tryd.func12, Tryd.ntmps12
    go_wp2_with fail
    refine (PL.out _).mono ?_
    rintro e v1 ⟨rfl, rfl⟩
    go_wp2
    exact retCell2 (b := w.heap.size) (v := .agg #[.int .i64 0, .string ⟨#[]⟩]) Tryd.results12 rfl rfl (by go_simp) ⟨rfl, A1.out⟩
  · have PL : Hid (∀ w : World, Calls Tryd.prog 17 #[.int .i64 (q : Int), .int .i64 0, .int .i64 1] w fun e w' => e = .returned (.bool true) ∧ w = w') := fun w => in_any _ 0 1 true (decide_eq_true (by omega)).symm w
    have UN : Hid (∀ w : World, Calls Tryd.prog 22 #[.string k, .int .i64 (q : Int), .string t] w fun e w' => e = .returned (.tuple #[.agg #[.int .i64 (rdE k q n (strB t)), .string (rdD k q n (strB t))], .bool (rdS k q n (strB t))]) ∧ Below w.heap.size w w') := fun w => by
      have := l06Read_any k q t h1 (by omega) (by omega) w
      rw [hn] at this
      exact this
    have CV : Hid (∀ w : World, Code8 w a n (strB t) → (convert 25 9 (.slice a n c)).run Tryd.prog w = .ok (.string t) w) := fun w h => by
      have ek : kstr (strB t) 0 n = t := by rw [← hn]; exact kstr_self t
      rcases Nat.eq_zero_or_pos n with h0 | h0
      · subst h0
        have et : t = ⟨#[]⟩ := by rw [← ek]; rfl
        rw [et]; exact conv_zero
      · obtain ⟨b, o, rfl, -⟩ := h.opened h0
        have := kstr_of_code (c := c) h
        rw [ek] at this
        exact this
    have RE0 : Hid (rdS k q n (strB t) = false → rdE k q n (strB t) = 0 ∧ rdD k q n (strB t) = ⟨#[]⟩ ∧ rdC k q n (strB t) = 10) := fun h => rd_no h
    have RY0 : Hid (rdS k q n (strB t) = true → rdC k q n (strB t) = 0) := fun h => (rd_yes h).2.2
    have x1 : ¬ (65536 : Int) < (k.size : Int) := by omega
    have x2 : ¬ (65536 : Int) < (n : Int) := by omega
    have x3 : ((k.size : Int) != 32) = false := by rw [h1]; rfl
    have HC : Hid (Code8 w a n (strB t)) := hc
    have Z0 : Hid (Sl2 w.heap.size 0 ⟨#[]⟩ (w.alloc (.cells #[.int .i64 0, .string ⟨#[]⟩] 28))) := Sl2.made w _ _ _
    generalize rdE k q n (strB t) = RE at *
    generalize rdD k q n (strB t) = RD at *
    generalize rdC k q n (strB t) = RC at *
    generalize rdS k q n (strB t) = RB at *
    clear hc h1 h2 h3 hn
    go_enter Tryd.func12, Tryd.ntmps12
    go_wp2_with fail
    generalize (w.alloc (.cells #[.int .i64 0, .string ⟨#[]⟩] 28)) = v0 at *
    refine (PL.out _).mono ?_
    rintro e v1 ⟨rfl, rfl⟩
    have cv := CV.out v0 (HC.out.below A1.out)
    go_wp2_with fail
    refine (UN.out _).mono ?_
    rintro e v2 ⟨rfl, hb⟩
    replace A1 : Hid (Below w.heap.size w v2) := A1.out.trans (hb.mono A1.out.size)
    replace Z0 : Hid (Sl2 w.heap.size 0 ⟨#[]⟩ v2) := Z0.out.below hb
    clear hb UN PL HC CV cv
    have hb : Below v2.heap.size v2 (v2.alloc (.cells #[.int .i64 RE, .string RD] 28)) := (Below.refl _ _).alloc (Nat.le_refl _) _
    have Z1 := Z0.out.below hb
    have z0 := Z1.c0
    have z1 := Z1.c1
    have z2 := Z1.fr 0
    have z3 := Z1.fr 1
    have B5 : Hid (Below w.heap.size w (v2.alloc (.cells #[.int .i64 RE, .string RD] 28))) := A1.out.trans (hb.mono A1.out.size)
    clear hb Z1 Z0 A1
    cases RB with
    | false =>
      obtain ⟨rfl, rfl, rfl⟩ := RE0.out rfl
      clear RE0 RY0
      go_wp2
      exact retCell2 (b := w.heap.size) (v := .agg #[.int .i64 0, .string ⟨#[]⟩]) Tryd.results12 rfl rfl (by go_simp) ⟨rfl, (B5.out.setCell (Nat.le_refl _) _).setCell (Nat.le_refl _) _⟩
    | true =>
      obtain rfl := RY0.out rfl
      clear RE0 RY0
      go_wp2
      exact retCell2 (b := w.heap.size) (v := .agg #[.int .i64 RE, .string RD]) Tryd.results12 rfl rfl (by go_simp) ⟨rfl, (B5.out.setCell (Nat.le_refl _) _).setCell (Nat.le_refl _) _⟩
theorem eqSlot_yes (E : Int) (D : ByteArray) (w : World) :
    Calls Tryd.prog 15 #[.agg #[.int .i64 E, .string D], .agg #[.int .i64 E, .string D]] w fun e w' => e = .returned (.bool true) ∧ Below w.heap.size w w' := by
  have A1 : Hid (Below w.heap.size w ((w.alloc (.cells #[.int .i64 E, .string D] 28)).alloc (.cells #[.int .i64 E, .string D] 28))) := ((Below.refl _ _).alloc (Nat.le_refl _) _).alloc (by simp) _
  have e1 : (E != E) = false := by simp
  go_enter Tryd.func15, Tryd.ntmps15
  go_wp2
  go_ret
  exact ⟨rfl, A1.out⟩
end Go.Proofs.YtbecnaabmlkjjabDoor

/-
  The exact law of ReadSlot.
-/
namespace Go.Proofs.YtbecnaabmlkjjabDoor
open Go.ChangeShapes Go.WideShapes Go.ChangeAt Go.RowKit
set_option linter.unusedVariables false
set_option maxRecDepth 100000 in
set_option maxHeartbeats 4000000 in
theorem law_readSlot (k : ByteArray) (p : Int) (a : Option Addr) (N C : Nat) (z : List Int) (w : World) (hrow : IsRow .u8 w a N C z) (ht : Tabs w) :
    Calls Tryd.prog 4 #[.string k, .int .i64 p, .slice a N C] w fun e w' => e = .returned (.bool true) ∧ Below w.heap.size w w' := by
  by_cases hk : k.size ≤ 1048576
  · have x1 : ¬ (1048576 : Int) < (k.size : Int) := by omega
    by_cases hN : N ≤ 1048576
    · have x2 : ¬ (1048576 : Int) < (N : Int) := by omega
      obtain ⟨f0, hf0, hc0⟩ := code8_of_row hrow
      obtain ⟨t, htd⟩ : ∃ t, t = kstr f0 0 N := ⟨_, rfl⟩
      have hts : t.size = N := by rw [htd]; exact kstr_size _ _ _
      have hc : Code8 w a N (strB t) := fun i hi => by
        obtain ⟨b, o, ha, hcc⟩ := hc0 i hi
        refine ⟨b, o, ha, ?_⟩
        rw [hcc, htd, strB_kstr f0 0 N i (hf0 _) hi, Nat.zero_add]
      obtain ⟨E, D, code, hr⟩ := rdAns_ex k p N (strB t)
      have TB : Hid (∀ w : World, Code8 w a N (strB t) → Calls Tryd.prog 13 #[.slice a N C] w fun e w' => (e = .returned (.slice (some ⟨w.heap.size, 0, none⟩) N N) ∧ Own8 w' w.heap.size N (strB t)) ∧ Below w.heap.size w w') := fun w h => (toByteS_any a N C (strB t) w h hN).mono fun e w' h => ⟨⟨h.1, h.2.1⟩, h.2.2⟩
      have SO : Hid (∀ (b : Nat) (w : World), Code8 w (some ⟨b, 0, none⟩) N (strB t) → Calls Tryd.prog 12 #[.string k, .int .i64 p, .slice (some ⟨b, 0, none⟩) N N] w fun e w' => e = .returned (.tuple #[.agg #[.int .i64 E, .string D], .int .i64 code]) ∧ Below w.heap.size w w') := fun b w h => specReadSlot_any k p _ N N t E D code hts hr w h
      have IY : Hid (∀ (b : Nat) (w : World), Code8 w (some ⟨b, 0, none⟩) N (strB t) → Tabs w → Calls Tryd.prog 14 #[.string k, .int .i64 p, .slice (some ⟨b, 0, none⟩) N N] w fun e w' => e = .returned (.tuple #[.agg #[.int .i64 E, .string D], .int .i64 code]) ∧ Below w.heap.size w w') := fun b w h h2 => implReadSlot_any k p _ N N (strB t) E D code hr (strB_lt t) (Nat.le_refl _) w h h2
      have EQ : Hid (∀ w : World, Calls Tryd.prog 15 #[.agg #[.int .i64 E, .string D], .agg #[.int .i64 E, .string D]] w fun e w' => e = .returned (.bool true) ∧ Below w.heap.size w w') := fun w => eqSlot_yes E D w
      have EB : Hid (∀ (b c : Nat) (w : World), Code8 w (some ⟨b, 0, none⟩) N (strB t) → Code8 w (some ⟨c, 0, none⟩) N (strB t) → Calls Tryd.prog 9 #[.slice (some ⟨b, 0, none⟩) N N, .slice (some ⟨c, 0, none⟩) N N] w fun e w' => e = .returned (.bool true) ∧ Below w.heap.size w w') := fun b c w h h' => (eqByteS_yes _ _ N N N (strB t) w h h' hN).mono fun e w' ⟨h, q, hq⟩ => ⟨h, by rw [hq]; exact below_drewN8 (Below.refl _ _) q⟩
      have HC : Hid (Code8 w a N (strB t)) := hc
      have HT : Hid (Tabs w) := ht
      have er : (code != code) = false := by simp
      have A1 : Hid (Below w.heap.size w w) := Below.refl _ _
      generalize strB t = F at *
      clear hr hc ht hc0 hf0 htd hts hrow hk hN
      go_enter Tryd.func4, Tryd.ntmps4
      go_wp2_with fail
      refine (TB.out _ HC.out).mono ?_
      rintro e v1 ⟨⟨rfl, ho⟩, hb⟩
      replace A1 : Hid (Below w.heap.size w v1) := A1.out.trans (hb.mono A1.out.size)
      have O1 : Hid (Code8 v1 (some ⟨w.heap.size, 0, none⟩) N F) := ho.code
      clear hb ho
      go_wp2_with fail
      refine (SO.out _ _ O1.out).mono ?_
      rintro e v2 ⟨rfl, hb⟩
      replace A1 : Hid (Below w.heap.size w v2) := A1.out.trans (hb.mono A1.out.size)
      clear hb O1 SO
      have hb : Below v2.heap.size v2 (v2.alloc (.cells #[.int .i64 E, .string D] 28)) := (Below.refl _ _).alloc (Nat.le_refl _) _
      have S0 : Hid (Sl2 v2.heap.size E D (v2.alloc (.cells #[.int .i64 E, .string D] 28))) := Sl2.made v2 _ _ _
      replace A1 : Hid (Below w.heap.size w (v2.alloc (.cells #[.int .i64 E, .string D] 28))) := A1.out.trans (hb.mono A1.out.size)
      clear hb
      go_wp2_with fail
      generalize (v2.alloc (.cells #[.int .i64 E, .string D] 28)) = v3 at *
      obtain ⟨sb, hsb⟩ : ∃ x, x = v2.heap.size := ⟨_, rfl⟩
      rw [← hsb] at S0 ⊢
      clear hsb
      refine (TB.out _ (HC.out.below A1.out)).mono ?_
      rintro e v4 ⟨⟨rfl, ho⟩, hb⟩
      replace A1 : Hid (Below w.heap.size w v4) := A1.out.trans (hb.mono A1.out.size)
      replace S0 : Hid (Sl2 sb E D v4) := S0.out.below hb
      obtain ⟨xb, hxb⟩ : ∃ x, x = v3.heap.size := ⟨_, rfl⟩
      rw [← hxb] at ho ⊢
      have O4 : Hid (Code8 v4 (some ⟨xb, 0, none⟩) N F) := ho.code
      clear hb ho hxb
      go_wp2_with fail
      refine (IY.out _ _ O4.out (HT.out.below A1.out)).mono ?_
      rintro e v5 ⟨rfl, hb⟩
      replace A1 : Hid (Below w.heap.size w v5) := A1.out.trans (hb.mono A1.out.size)
      replace S0 : Hid (Sl2 sb E D v5) := S0.out.below hb
      replace O4 : Hid (Code8 v5 (some ⟨xb, 0, none⟩) N F) := O4.out.below hb
      clear hb IY HT
      have hb : Below v5.heap.size v5 (v5.alloc (.cells #[.int .i64 E, .string D] 28)) := (Below.refl _ _).alloc (Nat.le_refl _) _
      have S1 : Hid (Sl2 v5.heap.size E D (v5.alloc (.cells #[.int .i64 E, .string D] 28))) := Sl2.made v5 _ _ _
      replace A1 : Hid (Below w.heap.size w (v5.alloc (.cells #[.int .i64 E, .string D] 28))) := A1.out.trans (hb.mono A1.out.size)
      replace S0 : Hid (Sl2 sb E D (v5.alloc (.cells #[.int .i64 E, .string D] 28))) := S0.out.below hb
      replace O4 : Hid (Code8 (v5.alloc (.cells #[.int .i64 E, .string D] 28)) (some ⟨xb, 0, none⟩) N F) := O4.out.below hb
      have s0 := S0.out.c0
      have s1 := S0.out.c1
      clear hb
      go_wp2_with fail
      clear s0 s1
      generalize (v5.alloc (.cells #[.int .i64 E, .string D] 28)) = v6 at *
      refine (EQ.out _).mono ?_
      rintro e v7 ⟨rfl, hb⟩
      replace A1 : Hid (Below w.heap.size w v7) := A1.out.trans (hb.mono A1.out.size)
      replace O4 : Hid (Code8 v7 (some ⟨xb, 0, none⟩) N F) := O4.out.below hb
      clear hb S0 S1 EQ
      go_wp2_with fail
      refine (TB.out _ (HC.out.below A1.out)).mono ?_
      rintro e v8 ⟨⟨rfl, ho⟩, hb⟩
      replace A1 : Hid (Below w.heap.size w v8) := A1.out.trans (hb.mono A1.out.size)
      replace O4 : Hid (Code8 v8 (some ⟨xb, 0, none⟩) N F) := O4.out.below hb
      have O8 : Hid (Code8 v8 (some ⟨v7.heap.size, 0, none⟩) N F) := ho.code
      clear hb ho TB HC
      go_wp2_with fail
      refine (EB.out _ _ _ O4.out O8.out).mono ?_
      rintro e v9 ⟨rfl, hb⟩
      replace A1 : Hid (Below w.heap.size w v9) := A1.out.trans (hb.mono A1.out.size)
      clear hb O4 O8 EB
      go_wp2
      go_ret
      exact ⟨rfl, A1.out⟩
    · have x2 : (1048576 : Int) < (N : Int) := by omega
      clear hrow ht
      go_enter Tryd.func4, Tryd.ntmps4
      go_wp2
      go_ret
      exact ⟨rfl, Below.refl _ _⟩
  · have x1 : (1048576 : Int) < (k.size : Int) := by omega
    clear hrow ht
    go_enter Tryd.func4, Tryd.ntmps4
    go_wp2
    go_ret
    exact ⟨rfl, Below.refl _ _⟩
end Go.Proofs.YtbecnaabmlkjjabDoor
