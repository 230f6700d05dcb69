/-
  Texts of the proof, joined: SealP.
-/
import Derived.Test.YtkmakpbphdjbcaaGreatDoorQ47
import Derived.Test.YtkmakpbphdjbcaaGreatDoorQ51
import Derived.Test.YtkmakpbphdjbcaaGreatDoorQ21
import Derived.Test.YtkmakpbphdjbcaaGreatDoorQ38
import Derived.Test.YtkmakpbphdjbcaaGreatDoorQ13
namespace Go.Proofs.YtkmakpbphdjbcaaGreatDoor
open Go.ChangeShapes Go.WideShapes Go.ChangeAt Go.RowKit
set_option linter.unusedVariables false
def pieceX (i : Nat) : Nat := if i = 0 then 112 else if i = 1 then 105 else if i = 2 then 101 else if i = 3 then 99 else 101
theorem pieceX_lt (i : Nat) : pieceX i < 256 := by unfold pieceX; split; omega; split; omega; split; omega; split; omega; omega
def pcNon (p v : Nat) : ByteArray := kstr (nonceF (16 + p) v) 0 12
theorem piece_code (w : World) : Code8 (w.alloc (.cells #[.int .u8 112, .int .u8 105, .int .u8 101, .int .u8 99, .int .u8 101] 5 (5, 6))) (some ⟨w.heap.size, 0, none⟩) 5 pieceX := code8_of (fun i hi => by
  rw [Nat.zero_add, World.cell?_alloc_mark]
  rcases (show i = 0 ∨ i = 1 ∨ i = 2 ∨ i = 3 ∨ i = 4 by omega) with rfl | rfl | rfl | rfl | rfl <;> (simp [pieceX]))
def PfP (k : ByteArray) (p v : Int) (t : ByteArray) (c : Int) : Prop :=
  (c = 2 ∧ (65536 < k.size ∨ 65536 < t.size)) ∨ (c = 1 ∧ ¬ 65536 < k.size ∧ ¬ 65536 < t.size ∧ k.size ≠ 32) ∨ (c = 4 ∧ ¬ 65536 < t.size ∧ k.size = 32 ∧ ¬ ((0 ≤ p ∧ p < 16) ∧ (1 ≤ v ∧ v ≤ 65535))) ∨ (c = 0 ∧ ¬ 65536 < t.size ∧ k.size = 32 ∧ (0 ≤ p ∧ p < 16) ∧ (1 ≤ v ∧ v ≤ 65535))
theorem PfP.ex (k : ByteArray) (p v : Int) (t : ByteArray) : ∃ c, PfP k p v t c := by
  by_cases h1 : 65536 < k.size ∨ 65536 < t.size
  · exact ⟨2, .inl ⟨rfl, h1⟩⟩
  · by_cases h2 : k.size = 32
    · by_cases h3 : (0 ≤ p ∧ p < 16) ∧ (1 ≤ v ∧ v ≤ 65535)
      · exact ⟨0, .inr (.inr (.inr ⟨rfl, fun z => h1 (.inr z), h2, h3⟩))⟩
      · exact ⟨4, .inr (.inr (.inl ⟨rfl, fun z => h1 (.inr z), h2, h3⟩))⟩
    · exact ⟨1, .inr (.inl ⟨rfl, fun z => h1 (.inl z), fun z => h1 (.inr z), h2⟩)⟩
theorem withinP (x n : Int) (r : Bool) (hr : r = decide (0 ≤ x ∧ x < n)) (w : World) :
    Calls Tryz.prog 52 #[.int .i64 x, .int .i64 n] w fun e w' => e = .returned (.bool r) ∧ w = w' := by
  by_cases h1 : 0 ≤ x
  · by_cases h2 : x < n
    · obtain rfl : r = true := by rw [hr]; simp; omega
      clear hr
      go_enter Tryz.func52, Tryz.ntmps52
      go_wp2
      go_ret
      exact ⟨rfl, rfl⟩
    · obtain rfl : r = false := by rw [hr]; simp; omega
      clear hr
      go_enter Tryz.func52, Tryz.ntmps52
      go_wp2
      go_ret
      exact ⟨rfl, rfl⟩
  · obtain rfl : r = false := by rw [hr]; simp; omega
    clear hr
    go_enter Tryz.func52, Tryz.ntmps52
    go_wp2
    go_ret
    exact ⟨rfl, rfl⟩
theorem versionP (x : Int) (r : Bool) (hr : r = decide (1 ≤ x ∧ x ≤ 65535)) (w : World) :
    Calls Tryz.prog 48 #[.int .i64 x] w fun e w' => e = .returned (.bool r) ∧ w = w' := by
  by_cases h1 : 1 ≤ x
  · by_cases h2 : x ≤ 65535
    · obtain rfl : r = true := by rw [hr]; simp; omega
      clear hr
      go_enter Tryz.func48, Tryz.ntmps48
      go_wp2
      go_ret
      exact ⟨rfl, rfl⟩
    · obtain rfl : r = false := by rw [hr]; simp; omega
      clear hr
      go_enter Tryz.func48, Tryz.ntmps48
      go_wp2
      go_ret
      exact ⟨rfl, rfl⟩
  · obtain rfl : r = false := by rw [hr]; simp; omega
    clear hr
    go_enter Tryz.func48, Tryz.ntmps48
    go_wp2
    go_ret
    exact ⟨rfl, rfl⟩
theorem isPieceP (s : ByteArray) (r : Bool) (hr : r = decide (1 ≤ s.size ∧ s.size ≤ 64)) (w : World) :
    Calls Tryz.prog 33 #[.string s] w fun e w' => e = .returned (.bool r) ∧ w = w' := by
  by_cases h1 : 1 ≤ s.size
  · by_cases h2 : s.size ≤ 64
    · obtain rfl : r = true := by rw [hr]; simp; omega
      have e1 : (1 : Int) ≤ (s.size : Int) := by omega
      have e2 : (s.size : Int) ≤ 64 := by omega
      clear hr
      go_enter Tryz.func33, Tryz.ntmps33
      go_wp2
      go_ret
      exact ⟨rfl, rfl⟩
    · obtain rfl : r = false := by rw [hr]; simp; omega
      have e1 : (1 : Int) ≤ (s.size : Int) := by omega
      have e2 : ¬ (s.size : Int) ≤ 64 := by omega
      clear hr
      go_enter Tryz.func33, Tryz.ntmps33
      go_wp2
      go_ret
      exact ⟨rfl, rfl⟩
  · obtain rfl : r = false := by rw [hr]; simp; omega
    have e1 : ¬ (1 : Int) ≤ (s.size : Int) := by omega
    clear hr
    go_enter Tryz.func33, Tryz.ntmps33
    go_wp2
    go_ret
    exact ⟨rfl, rfl⟩
set_option maxRecDepth 100000 in
theorem pieceFault_any (k : ByteArray) (p v : Int) (t : ByteArray) (c : Int) (h : PfP k p v t c) (w : World) :
    Calls Tryz.prog 32 #[.string k, .int .i64 p, .int .i64 v, .string t] w fun e w' => e = .returned (.int .i64 c) ∧ w = w' := by
  rcases h with ⟨rfl, h⟩ | ⟨rfl, h1, h2, h3⟩ | ⟨rfl, h2, h3, h4⟩ | ⟨rfl, h2, h3, h4, h5⟩
  · by_cases hk : 65536 < k.size
    · have k0 : (65536 : Int) < (k.size : Int) := by omega
      clear h
      go_enter Tryz.func32, Tryz.ntmps32
      go_wp2
      go_ret
      exact ⟨rfl, rfl⟩
    · have k0 : ¬ (65536 : Int) < (k.size : Int) := by omega
      have t0 : (65536 : Int) < (t.size : Int) := by rcases h with h | h <;> omega
      clear h
      go_enter Tryz.func32, Tryz.ntmps32
      go_wp2
      go_ret
      exact ⟨rfl, rfl⟩
  · have k0 : ¬ (65536 : Int) < (k.size : Int) := by omega
    have t0 : ¬ (65536 : Int) < (t.size : Int) := by omega
    have k1 : ((k.size : Int) != 32) = true := by simp; omega
    clear h1 h2 h3
    go_enter Tryz.func32, Tryz.ntmps32
    go_wp2
    go_ret
    exact ⟨rfl, rfl⟩
  · have k0 : ¬ (65536 : Int) < (k.size : Int) := by omega
    have t0 : ¬ (65536 : Int) < (t.size : Int) := by omega
    have k1 : ((k.size : Int) != 32) = false := by simp; omega
    by_cases hp : 0 ≤ p ∧ p < 16
    · have W1 : Hid (∀ w : World, Calls Tryz.prog 52 #[.int .i64 p, .int .i64 16] w fun e w' => e = .returned (.bool true) ∧ w = w') := fun w => withinP p 16 true (by simp [hp]) w
      have W2 : Hid (∀ w : World, Calls Tryz.prog 48 #[.int .i64 v] w fun e w' => e = .returned (.bool false) ∧ w = w') := fun w => versionP v false (by simp; omega) w
      clear h2 h3 h4 hp
      go_enter Tryz.func32, Tryz.ntmps32
      go_wp2_with fail
      refine (W1.out _).mono ?_
      rintro e _ ⟨rfl, rfl⟩
      go_wp2_with fail
      refine (W2.out _).mono ?_
      rintro e _ ⟨rfl, rfl⟩
      go_wp2
      go_ret
      exact ⟨rfl, rfl⟩
    · have W1 : Hid (∀ w : World, Calls Tryz.prog 52 #[.int .i64 p, .int .i64 16] w fun e w' => e = .returned (.bool false) ∧ w = w') := fun w => withinP p 16 false (by simp; omega) w
      clear h2 h3 h4 hp
      go_enter Tryz.func32, Tryz.ntmps32
      go_wp2_with fail
      refine (W1.out _).mono ?_
      rintro e _ ⟨rfl, rfl⟩
      go_wp2
      go_ret
      exact ⟨rfl, rfl⟩
  · have k0 : ¬ (65536 : Int) < (k.size : Int) := by omega
    have t0 : ¬ (65536 : Int) < (t.size : Int) := by omega
    have k1 : ((k.size : Int) != 32) = false := by simp; omega
    have W1 : Hid (∀ w : World, Calls Tryz.prog 52 #[.int .i64 p, .int .i64 16] w fun e w' => e = .returned (.bool true) ∧ w = w') := fun w => withinP p 16 true (by simp [h4]) w
    have W2 : Hid (∀ w : World, Calls Tryz.prog 48 #[.int .i64 v] w fun e w' => e = .returned (.bool true) ∧ w = w') := fun w => versionP v true (by simp [h5]) w
    clear h2 h3 h4 h5
    go_enter Tryz.func32, Tryz.ntmps32
    go_wp2_with fail
    refine (W1.out _).mono ?_
    rintro e _ ⟨rfl, rfl⟩
    go_wp2_with fail
    refine (W2.out _).mono ?_
    rintro e _ ⟨rfl, rfl⟩
    go_wp2
    go_ret
    exact ⟨rfl, rfl⟩
set_option maxRecDepth 100000 in
theorem pieceNonce_any (p v : Nat) (hp : p < 16) (hv : v ≤ 65535) (w : World) :
    Calls Tryz.prog 35 #[.int .i64 (p : Int), .int .i64 (v : Int)] w fun e w' => e = .returned (.string (pcNon p v)) ∧ Below w.heap.size w w' := by
  have NO : Hid (∀ w : World, Calls Tryz.prog 58 #[.int .i64 (16 + (p : Int)), .int .i64 (v : Int)] w fun e w' => e = .returned (.tuple #[.string (pcNon p v), .int .i64 0]) ∧ Below w.heap.size w w') := fun w => by
    have := implNonce_yes (16 + p) v (by omega) (by omega) w
    rw [show ((16 + p : Nat) : Int) = 16 + (p : Int) from by omega] at this
    exact this
  have p0 : (p : Int) < 16 := by omega
  have p1 : (0 : Int) ≤ (p : Int) := by omega
  generalize pcNon p v = NN at *
  clear hp hv
  go_enter Tryz.func35, Tryz.ntmps35
  go_wp2_with fail
  refine (NO.out _).mono ?_
  rintro e w1 ⟨rfl, hb⟩
  have HB : Hid (Below w.heap.size w w1) := hb
  clear hb NO
  go_wp2
  go_ret
  exact ⟨rfl, HB.out⟩
set_option maxRecDepth 100000 in
theorem l12Ask_any (k : ByteArray) (p v : Int) (t : ByteArray) (c : Int) (h : PfP k p v t c) (hk : ¬ 65536 < k.size) (ht : ¬ 65536 < t.size) (w : World) :
    Calls Tryz.prog 36 #[.string k, .int .i64 p, .int .i64 v] w fun e w' => e = .returned (.int .i64 c) ∧ w = w' := by
  rcases h with ⟨rfl, h⟩ | ⟨rfl, h1, h2, h3⟩ | ⟨rfl, h2, h3, h4⟩ | ⟨rfl, h2, h3, h4, h5⟩
  · rcases h with h | h
    · exact absurd h hk
    · exact absurd h ht
  · have k1 : ((k.size : Int) != 32) = true := by simp; omega
    clear h1 h2 h3 hk ht
    go_enter Tryz.func36, Tryz.ntmps36
    go_wp2
    go_ret
    exact ⟨rfl, rfl⟩
  · have k1 : ((k.size : Int) != 32) = false := by simp; omega
    by_cases hp : 0 ≤ p ∧ p < 16
    · have W1 : Hid (∀ w : World, Calls Tryz.prog 37 #[.int .i64 p, .int .i64 0, .int .i64 15] w fun e w' => e = .returned (.bool true) ∧ w = w') := fun w => in_any p 0 15 true (by simp; omega) w
      have W2 : Hid (∀ w : World, Calls Tryz.prog 37 #[.int .i64 v, .int .i64 1, .int .i64 65535] w fun e w' => e = .returned (.bool false) ∧ w = w') := fun w => in_any v 1 65535 false (by simp; omega) w
      clear h2 h3 h4 hp hk ht
      go_enter Tryz.func36, Tryz.ntmps36
      go_wp2_with fail
      refine (W1.out _).mono ?_
      rintro e _ ⟨rfl, rfl⟩
      go_wp2_with fail
      refine (W2.out _).mono ?_
      rintro e _ ⟨rfl, rfl⟩
      go_wp2
      go_ret
      exact ⟨rfl, rfl⟩
    · have W1 : Hid (∀ w : World, Calls Tryz.prog 37 #[.int .i64 p, .int .i64 0, .int .i64 15] w fun e w' => e = .returned (.bool false) ∧ w = w') := fun w => in_any p 0 15 false (by simp; omega) w
      clear h2 h3 h4 hp hk ht
      go_enter Tryz.func36, Tryz.ntmps36
      go_wp2_with fail
      refine (W1.out _).mono ?_
      rintro e _ ⟨rfl, rfl⟩
      go_wp2
      go_ret
      exact ⟨rfl, rfl⟩
  · have k1 : ((k.size : Int) != 32) = false := by simp; omega
    have W1 : Hid (∀ w : World, Calls Tryz.prog 37 #[.int .i64 p, .int .i64 0, .int .i64 15] w fun e w' => e = .returned (.bool true) ∧ w = w') := fun w => in_any p 0 15 true (by simp; omega) w
    have W2 : Hid (∀ w : World, Calls Tryz.prog 37 #[.int .i64 v, .int .i64 1, .int .i64 65535] w fun e w' => e = .returned (.bool true) ∧ w = w') := fun w => in_any v 1 65535 true (by simp; omega) w
    clear h2 h3 h4 h5 hk ht
    go_enter Tryz.func36, Tryz.ntmps36
    go_wp2_with fail
    refine (W1.out _).mono ?_
    rintro e _ ⟨rfl, rfl⟩
    go_wp2_with fail
    refine (W2.out _).mono ?_
    rintro e _ ⟨rfl, rfl⟩
    go_wp2
    go_ret
    exact ⟨rfl, rfl⟩
def pcSeal (k : ByteArray) (p v : Nat) (s : ByteArray) : ByteArray := kstr (sealedF k (pcNon p v) 5 pieceX s.size (strB s)) 0 (s.size + 16)
def SpIs (k : ByteArray) (p v : Int) (s T : ByteArray) (c : Int) : Prop :=
  (PfP k p v s c ∧ c ≠ 0 ∧ T = ⟨#[]⟩) ∨ (PfP k p v s 0 ∧ ¬ (1 ≤ s.size ∧ s.size ≤ 64) ∧ c = 1 ∧ T = ⟨#[]⟩) ∨ (PfP k p v s 0 ∧ (1 ≤ s.size ∧ s.size ≤ 64) ∧ c = 0 ∧ T = pcSeal k p.toNat v.toNat s)
theorem PfP.zero {k : ByteArray} {p v : Int} {t : ByteArray} (h : PfP k p v t 0) : ¬ 65536 < t.size ∧ k.size = 32 ∧ (0 ≤ p ∧ p < 16) ∧ (1 ≤ v ∧ v ≤ 65535) := by
  rcases h with ⟨e, _⟩ | ⟨e, _⟩ | ⟨e, _⟩ | ⟨_, h⟩
  · cases e
  · cases e
  · cases e
  · exact h
set_option maxRecDepth 100000 in
set_option maxHeartbeats 4000000 in
theorem implSealP_any (k : ByteArray) (p v : Int) (s T : ByteArray) (c : Int) (hA : SpIs k p v s T c) (w : World) (ht : Tabs w) :
    Calls Tryz.prog 13 #[.string k, .int .i64 p, .int .i64 v, .string s] w fun e w' => e = .returned (.tuple #[.string T, .int .i64 c]) ∧ Below w.heap.size w w' := by
  rcases hA with ⟨h, hc, rfl⟩ | ⟨h, h1, rfl, rfl⟩ | ⟨h, h1, rfl, rfl⟩
  · have PF : Hid (∀ w : World, Calls Tryz.prog 32 #[.string k, .int .i64 p, .int .i64 v, .string s] w fun e w' => e = .returned (.int .i64 c) ∧ w = w') := pieceFault_any k p v s c h
    have e1 : (c != 0) = true := by simp [hc]
    clear h hc ht
    go_enter Tryz.func13, Tryz.ntmps13
    go_wp2_with fail
    refine (PF.out _).mono ?_
    rintro e _ ⟨rfl, rfl⟩
    go_wp2
    exact bodyPost_ret (results_tmp2 Tryz.results13 _ _ _) rfl ⟨rfl, Below.refl _ _⟩
  · have PF : Hid (∀ w : World, Calls Tryz.prog 32 #[.string k, .int .i64 p, .int .i64 v, .string s] w fun e w' => e = .returned (.int .i64 0) ∧ w = w') := pieceFault_any k p v s 0 h
    have IP : Hid (∀ w : World, Calls Tryz.prog 33 #[.string s] w fun e w' => e = .returned (.bool false) ∧ w = w') := fun w => isPieceP s false (by simp; omega) w
    clear h h1 ht
    go_enter Tryz.func13, Tryz.ntmps13
    go_wp2_with fail
    refine (PF.out _).mono ?_
    rintro e _ ⟨rfl, rfl⟩
    go_wp2_with fail
    refine (IP.out _).mono ?_
    rintro e _ ⟨rfl, rfl⟩
    go_wp2
    exact bodyPost_ret (results_tmp2 Tryz.results13 _ _ _) rfl ⟨rfl, Below.refl _ _⟩
  · have PF : Hid (∀ w : World, Calls Tryz.prog 32 #[.string k, .int .i64 p, .int .i64 v, .string s] w fun e w' => e = .returned (.int .i64 0) ∧ w = w') := pieceFault_any k p v s 0 h
    have IP : Hid (∀ w : World, Calls Tryz.prog 33 #[.string s] w fun e w' => e = .returned (.bool true) ∧ w = w') := fun w => isPieceP s true (by simp; omega) w
    obtain ⟨_, hk, hp, hv⟩ := h.zero
    obtain ⟨P, rfl⟩ := Int.eq_ofNat_of_zero_le hp.1
    obtain ⟨V, rfl⟩ := Int.eq_ofNat_of_zero_le (show 0 ≤ v by omega)
    have NO : Hid (∀ w : World, Calls Tryz.prog 35 #[.int .i64 (P : Int), .int .i64 (V : Int)] w fun e w' => e = .returned (.string (pcNon P V)) ∧ Below w.heap.size w w') := fun w => pieceNonce_any P V (by omega) (by omega) w
    have SE : Hid (∀ (xb xc b c : Nat) (w : World), Code8 w (some ⟨xb, 0, none⟩) 5 pieceX → Code8 w (some ⟨b, 0, none⟩) s.size (strB s) → Tabs w → Calls Tryz.prog 34 #[.string k, .string (pcNon P V), .slice (some ⟨xb, 0, none⟩) 5 xc, .slice (some ⟨b, 0, none⟩) s.size c] w fun e w' => RetB2 w w' e (s.size + 16) (sealedF k (pcNon P V) 5 pieceX s.size (strB s)) (.int .i64 0) ∧ Below w.heap.size w w') := fun xb xc b c w h1 h2 h3 => implSeal_yes k _ xb 0 5 xc b 0 s.size c pieceX (strB s) hk (kstr_size _ _ _) (by omega) (by omega) pieceX_lt (strB_lt _) w h1 h2 h3
    have HT : Hid (Tabs w) := ht
    have EP : Hid (pcSeal k (P : Int).toNat (V : Int).toNat s = kstr (sealedF k (pcNon P V) 5 pieceX s.size (strB s)) 0 (s.size + 16)) := rfl
    rw [EP.out]
    generalize pcNon P V = NN at *
    generalize sealedF k NN 5 pieceX s.size (strB s) = F at *
    generalize hKT : kstr F 0 (s.size + 16) = KT at *
    have HKT : Hid (kstr F 0 (s.size + 16) = KT) := hKT
    clear h h1 ht hk hp hv EP hKT
    go_enter Tryz.func13, Tryz.ntmps13
    go_wp2_with fail
    refine (PF.out _).mono ?_
    rintro e _ ⟨rfl, rfl⟩
    go_wp2_with fail
    refine (IP.out _).mono ?_
    rintro e _ ⟨rfl, rfl⟩
    go_wp2_with fail
    refine (NO.out _).mono ?_
    rintro e v2 ⟨rfl, hb⟩
    have A1 : Hid (Below w.heap.size w v2) := hb
    clear hb NO PF IP
    have hcv1 : (convert 22 22 (.slice (some ⟨v2.heap.size, 0, none⟩) 5 5)).run Tryz.prog (v2.alloc (.cells #[.int .u8 112, .int .u8 105, .int .u8 101, .int .u8 99, .int .u8 101] 5)) = .ok (.slice (some ⟨v2.heap.size, 0, none⟩) 5 5) (v2.alloc (.cells #[.int .u8 112, .int .u8 105, .int .u8 101, .int .u8 99, .int .u8 101] 5 (5, 6))) := conv_rowS v2 #[.int .u8 112, .int .u8 105, .int .u8 101, .int .u8 99, .int .u8 101] 5 5
    have hbA : Below v2.heap.size v2 (v2.alloc (.cells #[.int .u8 112, .int .u8 105, .int .u8 101, .int .u8 99, .int .u8 101] 5 (5, 6))) := (Below.refl _ _).alloc (Nat.le_refl _) _
    have X3 : Hid (Code8 (v2.alloc (.cells #[.int .u8 112, .int .u8 105, .int .u8 101, .int .u8 99, .int .u8 101] 5 (5, 6))) (some ⟨v2.heap.size, 0, none⟩) 5 pieceX) := piece_code v2
    replace A1 : Hid (Below w.heap.size w (v2.alloc (.cells #[.int .u8 112, .int .u8 105, .int .u8 101, .int .u8 99, .int .u8 101] 5 (5, 6)))) := A1.out.trans (hbA.mono A1.out.size)
    clear hbA
    generalize (v2.alloc (.cells #[.int .u8 112, .int .u8 105, .int .u8 101, .int .u8 99, .int .u8 101] 5 (5, 6))) = v3 at *
    obtain ⟨v4, c4, hcv, hk4, hb4, _⟩ := bytesOfM s v3
    have X4 : Hid (Code8 v4 (some ⟨v2.heap.size, 0, none⟩) 5 pieceX) := X3.out.below hb4
    have K4 : Hid (Code8 v4 (some ⟨v3.heap.size, 0, none⟩) s.size (strB s)) := hk4
    have B4 : Hid (Below w.heap.size w v4) := A1.out.trans (hb4.mono A1.out.size)
    clear hk4 hb4 X3 A1
    go_wp2_with fail
    refine (SE.out _ _ _ _ _ X4.out K4.out (HT.out.below B4.out)).mono ?_
    rintro e v5 ⟨⟨b, c, ⟨hgb, hgc⟩, rfl, ho⟩, hb⟩
    have B5 : Hid (Below w.heap.size w v5) := B4.out.trans (hb.mono B4.out.size)
    have cv5 := kstr_of_code (c := c) ho.code
    rw [HKT.out] at cv5
    clear hb ho hgb hgc hcv hcv1 X4 K4 B4 SE HT
    generalize s.size + 16 = m at *
    go_wp2
    exact bodyPost_ret (results_tmp2 Tryz.results13 _ _ _) rfl ⟨rfl, B5.out⟩
set_option maxRecDepth 100000 in
set_option maxHeartbeats 4000000 in
theorem l12Seal_any (k : ByteArray) (P V : Nat) (s : ByteArray) (hk : k.size = 32) (hP : P < 16) (hV : V ≤ 65535) (hs : s.size ≤ 64) (w : World) :
    Calls Tryz.prog 38 #[.string k, .int .i64 (P : Int), .int .i64 (V : Int), .string s] w fun e w' => e = .returned (.string (pcSeal k P V s)) ∧ Below w.heap.size w w' := by
  have NO : Hid (∀ w : World, Calls Tryz.prog 60 #[.int .i64 (16 + (P : Int)), .int .i64 (V : Int)] w fun e w' => e = .returned (.string (pcNon P V)) ∧ Below w.heap.size w w') := fun w => by
    have := l04Nonce_any (16 + P) V (by omega) (by omega) w
    rw [show ((16 + P : Nat) : Int) = 16 + (P : Int) from by omega] at this
    exact this
  have SE : Hid (∀ (xb xc b c : Nat) (w : World), Code8 w (some ⟨xb, 0, none⟩) 5 pieceX → Code8 w (some ⟨b, 0, none⟩) s.size (strB s) → Calls Tryz.prog 59 #[.string k, .string (pcNon P V), .slice (some ⟨xb, 0, none⟩) 5 xc, .slice (some ⟨b, 0, none⟩) s.size c] w fun e w' => RetB w w' e (s.size + 16) (sealedF k (pcNon P V) 5 pieceX s.size (strB s)) ∧ Below w.heap.size w w') := fun xb xc b c w h1 h2 => l04Seal_any k _ xb 0 5 xc b 0 s.size c pieceX (strB s) hk (kstr_size _ _ _) (by omega) (by omega) pieceX_lt (strB_lt _) w h1 h2
  have EP : Hid (pcSeal k P V s = kstr (sealedF k (pcNon P V) 5 pieceX s.size (strB s)) 0 (s.size + 16)) := rfl
  have p0 : (P : Int) < 16 := by omega
  have p1 : (0 : Int) ≤ (P : Int) := by omega
  rw [EP.out]
  generalize pcNon P V = NN at *
  generalize sealedF k NN 5 pieceX s.size (strB s) = F at *
  generalize hKT : kstr F 0 (s.size + 16) = KT at *
  have HKT : Hid (kstr F 0 (s.size + 16) = KT) := hKT
  clear hk hP hV hs EP hKT
  go_enter Tryz.func38, Tryz.ntmps38
  go_wp2_with fail
  refine (NO.out _).mono ?_
  rintro e v2 ⟨rfl, hb⟩
  have A1 : Hid (Below w.heap.size w v2) := hb
  clear hb NO
  have hcv1 : (convert 22 22 (.slice (some ⟨v2.heap.size, 0, none⟩) 5 5)).run Tryz.prog (v2.alloc (.cells #[.int .u8 112, .int .u8 105, .int .u8 101, .int .u8 99, .int .u8 101] 5)) = .ok (.slice (some ⟨v2.heap.size, 0, none⟩) 5 5) (v2.alloc (.cells #[.int .u8 112, .int .u8 105, .int .u8 101, .int .u8 99, .int .u8 101] 5 (5, 6))) := conv_rowS v2 #[.int .u8 112, .int .u8 105, .int .u8 101, .int .u8 99, .int .u8 101] 5 5
  have hbA : Below v2.heap.size v2 (v2.alloc (.cells #[.int .u8 112, .int .u8 105, .int .u8 101, .int .u8 99, .int .u8 101] 5 (5, 6))) := (Below.refl _ _).alloc (Nat.le_refl _) _
  have X3 : Hid (Code8 (v2.alloc (.cells #[.int .u8 112, .int .u8 105, .int .u8 101, .int .u8 99, .int .u8 101] 5 (5, 6))) (some ⟨v2.heap.size, 0, none⟩) 5 pieceX) := piece_code v2
  replace A1 : Hid (Below w.heap.size w (v2.alloc (.cells #[.int .u8 112, .int .u8 105, .int .u8 101, .int .u8 99, .int .u8 101] 5 (5, 6)))) := A1.out.trans (hbA.mono A1.out.size)
  clear hbA
  generalize (v2.alloc (.cells #[.int .u8 112, .int .u8 105, .int .u8 101, .int .u8 99, .int .u8 101] 5 (5, 6))) = v3 at *
  obtain ⟨v4, c4, hcv, hk4, hb4, _⟩ := bytesOfM s v3
  have X4 : Hid (Code8 v4 (some ⟨v2.heap.size, 0, none⟩) 5 pieceX) := X3.out.below hb4
  have K4 : Hid (Code8 v4 (some ⟨v3.heap.size, 0, none⟩) s.size (strB s)) := hk4
  have B4 : Hid (Below w.heap.size w v4) := A1.out.trans (hb4.mono A1.out.size)
  clear hk4 hb4 X3 A1
  go_wp2_with fail
  refine (SE.out _ _ _ _ _ X4.out K4.out).mono ?_
  rintro e v5 ⟨⟨b, c, ⟨hgb, hgc⟩, rfl, ho⟩, hb⟩
  have B5 : Hid (Below w.heap.size w v5) := B4.out.trans (hb.mono B4.out.size)
  have cv5 := kstr_of_code (c := c) ho.code
  rw [HKT.out] at cv5
  clear hb ho hgb hgc hcv hcv1 X4 K4 B4 SE
  generalize s.size + 16 = m at *
  go_wp2
  go_ret
  exact ⟨rfl, B5.out⟩
set_option maxRecDepth 100000 in
set_option maxHeartbeats 4000000 in
theorem specSealP_any (k : ByteArray) (p v : Int) (s T : ByteArray) (c : Int) (hA : SpIs k p v s T c) (w : World) :
    Calls Tryz.prog 15 #[.string k, .int .i64 p, .int .i64 v, .string s] w fun e w' => e = .returned (.tuple #[.string T, .int .i64 c]) ∧ Below w.heap.size w w' := by
  by_cases hkz : 65536 < k.size
  · obtain ⟨rfl, rfl⟩ : c = 2 ∧ T = ⟨#[]⟩ := by
      rcases hA with ⟨h, hc, rfl⟩ | ⟨h, _⟩ | ⟨h, _⟩
      · rcases h with ⟨rfl, _⟩ | ⟨_, h1, _⟩ | ⟨_, _, h3, _⟩ | ⟨_, _, h3, _⟩
        · exact ⟨rfl, rfl⟩
        · exact absurd hkz h1
        · omega
        · omega
      · have := h.zero.2.1; omega
      · have := h.zero.2.1; omega
    have k0 : (65536 : Int) < (k.size : Int) := by omega
    clear hA
    go_enter Tryz.func15, Tryz.ntmps15
    go_wp2
    exact bodyPost_ret (results_tmp2 Tryz.results15 _ _ _) rfl ⟨rfl, Below.refl _ _⟩
  · have k0 : ¬ (65536 : Int) < (k.size : Int) := by omega
    by_cases htz : 65536 < s.size
    · obtain ⟨rfl, rfl⟩ : c = 2 ∧ T = ⟨#[]⟩ := by
        rcases hA with ⟨h, hc, rfl⟩ | ⟨h, _⟩ | ⟨h, _⟩
        · rcases h with ⟨rfl, _⟩ | ⟨_, _, h1, _⟩ | ⟨_, h1, _⟩ | ⟨_, h1, _⟩
          · exact ⟨rfl, rfl⟩
          · exact absurd htz h1
          · exact absurd htz h1
          · exact absurd htz h1
        · exact absurd htz h.zero.1
        · exact absurd htz h.zero.1
      have t0 : (65536 : Int) < (s.size : Int) := by omega
      clear hA
      go_enter Tryz.func15, Tryz.ntmps15
      go_wp2
      exact bodyPost_ret (results_tmp2 Tryz.results15 _ _ _) rfl ⟨rfl, Below.refl _ _⟩
    · have t0 : ¬ (65536 : Int) < (s.size : Int) := by omega
      rcases hA with ⟨h, hc, rfl⟩ | ⟨h, h1, rfl, rfl⟩ | ⟨h, h1, rfl, rfl⟩
      · have PF : Hid (∀ w : World, Calls Tryz.prog 36 #[.string k, .int .i64 p, .int .i64 v] w fun e w' => e = .returned (.int .i64 c) ∧ w = w') := l12Ask_any k p v s c h hkz htz
        have e1 : (c != 0) = true := by simp [hc]
        clear h hc hkz htz
        go_enter Tryz.func15, Tryz.ntmps15
        go_wp2_with fail
        refine (PF.out _).mono ?_
        rintro e _ ⟨rfl, rfl⟩
        go_wp2
        exact bodyPost_ret (results_tmp2 Tryz.results15 _ _ _) rfl ⟨rfl, Below.refl _ _⟩
      · have PF : Hid (∀ w : World, Calls Tryz.prog 36 #[.string k, .int .i64 p, .int .i64 v] w fun e w' => e = .returned (.int .i64 0) ∧ w = w') := l12Ask_any k p v s 0 h hkz htz
        have IP : Hid (∀ w : World, Calls Tryz.prog 37 #[.int .i64 (s.size : Int), .int .i64 1, .int .i64 64] w fun e w' => e = .returned (.bool false) ∧ w = w') := fun w => in_any s.size 1 64 false (by simp; omega) w
        clear h h1 hkz htz
        go_enter Tryz.func15, Tryz.ntmps15
        go_wp2_with fail
        refine (PF.out _).mono ?_
        rintro e _ ⟨rfl, rfl⟩
        go_wp2_with fail
        refine (IP.out _).mono ?_
        rintro e _ ⟨rfl, rfl⟩
        go_wp2
        exact bodyPost_ret (results_tmp2 Tryz.results15 _ _ _) rfl ⟨rfl, Below.refl _ _⟩
      · have PF : Hid (∀ w : World, Calls Tryz.prog 36 #[.string k, .int .i64 p, .int .i64 v] w fun e w' => e = .returned (.int .i64 0) ∧ w = w') := l12Ask_any k p v s 0 h hkz htz
        have IP : Hid (∀ w : World, Calls Tryz.prog 37 #[.int .i64 (s.size : Int), .int .i64 1, .int .i64 64] w fun e w' => e = .returned (.bool true) ∧ w = w') := fun w => in_any s.size 1 64 true (by simp; omega) w
        obtain ⟨_, hk, hp, hv⟩ := h.zero
        obtain ⟨P, rfl⟩ := Int.eq_ofNat_of_zero_le hp.1
        obtain ⟨V, rfl⟩ := Int.eq_ofNat_of_zero_le (show 0 ≤ v by omega)
        have LS : Hid (∀ w : World, Calls Tryz.prog 38 #[.string k, .int .i64 (P : Int), .int .i64 (V : Int), .string s] w fun e w' => e = .returned (.string (pcSeal k (P : Int).toNat (V : Int).toNat s)) ∧ Below w.heap.size w w') := fun w => l12Seal_any k P V s hk (by omega) (by omega) h1.2 w
        generalize pcSeal k (P : Int).toNat (V : Int).toNat s = KT at *
        clear h h1 hkz htz hk hp hv
        go_enter Tryz.func15, Tryz.ntmps15
        go_wp2_with fail
        refine (PF.out _).mono ?_
        rintro e _ ⟨rfl, rfl⟩
        go_wp2_with fail
        refine (IP.out _).mono ?_
        rintro e _ ⟨rfl, rfl⟩
        go_wp2_with fail
        refine (LS.out _).mono ?_
        rintro e v2 ⟨rfl, hb⟩
        have B2 : Hid (Below w.heap.size w v2) := hb
        clear hb LS PF IP
        go_wp2
        exact bodyPost_ret (results_tmp2 Tryz.results15 _ _ _) rfl ⟨rfl, B2.out⟩
end Go.Proofs.YtkmakpbphdjbcaaGreatDoor
