/-
  SlotBytes: the program, the model, and its exact law.
-/
import Derived.Test.YtbecnaabmlkjjabDoorJ33
import Derived.Test.YtbecnaabmlkjjabDoorJ32
import Derived.Test.YtbecnaabmlkjjabDoorJ02
import Derived.Test.YtbecnaabmlkjjabDoorJ05
import Derived.Test.YtbecnaabmlkjjabDoorRows
import Derived.ProofKit
import Derived.OpenShut
import Derived.ShutString
import Derived.ChangeOld
import Derived.Below
import Derived.Carry
import Derived.ChangeSame
namespace Go.Proofs.YtbecnaabmlkjjabDoor
open Go.ChangeShapes Go.WideShapes Go.ChangeAt Go.RowKit
set_option linter.unusedVariables false
/-- What SlotBytes answers. -/
def SbAns (k : ByteArray) (p ep : Int) (s : ByteArray) (n : Nat) (G : Nat → Nat) (code : Int) : Prop :=
  (65536 < k.size ∧ n = 0 ∧ code = 2) ∨ (k.size ≤ 65536 ∧ (k.size ≠ 32 ∨ (k.size = 32 ∧ ¬ SlotR ep s)) ∧ n = 0 ∧ code = 1) ∨ (k.size = 32 ∧ SlotR ep s ∧ ¬ (0 ≤ p ∧ p ≤ 1) ∧ n = 0 ∧ code = 4) ∨ (k.size = 32 ∧ SlotR ep s ∧ ∃ q e : Nat, p = (q : Int) ∧ ep = (e : Int) ∧ q < 2 ∧ n = 20 + s.size ∧ G = slotF k q e s ∧ code = 0)
theorem sbAns_ex (k : ByteArray) (p ep : Int) (s : ByteArray) : ∃ n G code, SbAns k p ep s n G code ∧ n ≤ 1048576 := by
  by_cases h1 : k.size ≤ 65536
  · by_cases h2 : k.size = 32
    · by_cases h4 : SlotR ep s
      · by_cases h3 : 0 ≤ p ∧ p ≤ 1
        · have := h4
          unfold SlotR at this
          exact ⟨_, _, _, .inr (.inr (.inr ⟨h2, h4, p.toNat, ep.toNat, by omega, by omega, by omega, rfl, rfl, rfl⟩)), by omega⟩
        · exact ⟨0, fun _ => 0, _, .inr (.inr (.inl ⟨h2, h4, h3, rfl, rfl⟩)), by omega⟩
      · exact ⟨0, fun _ => 0, _, .inr (.inl ⟨h1, .inr ⟨h2, h4⟩, rfl, rfl⟩), by omega⟩
    · exact ⟨0, fun _ => 0, _, .inr (.inl ⟨h1, .inl h2, rfl, rfl⟩), by omega⟩
  · exact ⟨0, fun _ => 0, _, .inl ⟨by omega, rfl, rfl⟩, by omega⟩
def RetK (w' : World) (e : Ending) (n : Nat) (f : Nat → Nat) (code : Int) : Prop := ∃ a c, e = .returned (.tuple #[.slice a n c, .int .i64 code]) ∧ Code8 w' a n f
set_option maxRecDepth 100000 in
set_option maxHeartbeats 2000000 in
theorem implSlotBytes_any (k : ByteArray) (p ep : Int) (s : ByteArray) (n : Nat) (G : Nat → Nat) (code : Int) (hr : SbAns k p ep s n G code) (w : World) (ht : Tabs w) :
    Calls Tryd.prog 8 #[.string k, .int .i64 p, .agg #[.int .i64 ep, .string s]] w fun e w' => RetI w w' e n G code ∧ Below w.heap.size w w' := by
  have A1 : Hid (Below w.heap.size w (w.alloc (.cells #[.int .i64 ep, .string s] 28))) := (Below.refl _ _).alloc (Nat.le_refl _) _
  have C0 : Hid (Sl2 w.heap.size ep s (w.alloc (.cells #[.int .i64 ep, .string s] 28))) := Sl2.made w _ _ _
  rcases hr with ⟨h1, rfl, rfl⟩ | ⟨h1, h2, rfl, rfl⟩ | ⟨h1, h2, h3, rfl, rfl⟩ | ⟨h1, h2, q, e0, rfl, rfl, h3, rfl, rfl, rfl⟩
  · have x1 : (65536 : Int) < (k.size : Int) := by omega
    clear h1 ht
    go_enter Tryd.func8, Tryd.ntmps8
    go_wp2
    go_ret2
    exact ⟨⟨none, 0, rfl, .inl rfl⟩, A1.out⟩
  · have x1 : ¬ (65536 : Int) < (k.size : Int) := by omega
    rcases h2 with h2 | ⟨h2, h3⟩
    · have x3 : ((k.size : Int) != 32) = true := by rw [bne_iff_ne]; omega
      clear h1 h2 ht
      go_enter Tryd.func8, Tryd.ntmps8
      go_wp2
      go_ret2
      exact ⟨⟨none, 0, rfl, .inl rfl⟩, A1.out⟩
    · have x3 : ((k.size : Int) != 32) = false := by rw [h2]; rfl
      have OK : Hid (∀ w : World, Calls Tryd.prog 19 #[.agg #[.int .i64 ep, .string s]] w fun e w' => e = .returned (.bool false) ∧ Below w.heap.size w w') := fun w => implSlotOK_any ep s false ⟨fun q => (by cases q), fun q => absurd q h3⟩ w
      have s0 := C0.out.c0
      have s1 := C0.out.c1
      clear h1 h2 h3 ht
      go_enter Tryd.func8, Tryd.ntmps8
      go_wp2_with fail
      clear s0 s1
      generalize (w.alloc (.cells #[.int .i64 ep, .string s] 28)) = v0 at *
      refine (OK.out _).mono ?_
      rintro e v1 ⟨rfl, hb⟩
      replace A1 : Hid (Below w.heap.size w v1) := A1.out.trans (hb.mono A1.out.size)
      clear hb C0
      go_wp2
      go_ret2
      exact ⟨⟨none, 0, rfl, .inl rfl⟩, A1.out⟩
  · have x1 : ¬ (65536 : Int) < (k.size : Int) := by omega
    have x3 : ((k.size : Int) != 32) = false := by rw [h1]; rfl
    have OK : Hid (∀ w : World, Calls Tryd.prog 19 #[.agg #[.int .i64 ep, .string s]] w fun e w' => e = .returned (.bool true) ∧ Below w.heap.size w w') := fun w => implSlotOK_any ep s true ⟨fun _ => h2, fun _ => rfl⟩ w
    have PL : Hid (∀ w : World, Calls Tryd.prog 20 #[.int .i64 p] w fun e w' => e = .returned (.bool false) ∧ w = w') := fun w => isPlace_any p false ⟨fun q => (by cases q), fun q => absurd q h3⟩ w
    have s0 := C0.out.c0
    have s1 := C0.out.c1
    clear h1 h2 h3 ht
    go_enter Tryd.func8, Tryd.ntmps8
    go_wp2_with fail
    clear s0 s1
    generalize (w.alloc (.cells #[.int .i64 ep, .string s] 28)) = v0 at *
    refine (OK.out _).mono ?_
    rintro e v1 ⟨rfl, hb⟩
    replace A1 : Hid (Below w.heap.size w v1) := A1.out.trans (hb.mono A1.out.size)
    clear hb C0
    go_wp2_with fail
    refine (PL.out _).mono ?_
    rintro e v2 ⟨rfl, rfl⟩
    go_wp2
    go_ret2
    exact ⟨⟨none, 0, rfl, .inl rfl⟩, A1.out⟩
  · have x1 : ¬ (65536 : Int) < (k.size : Int) := by omega
    have x3 : ((k.size : Int) != 32) = false := by rw [h1]; rfl
    have hsl := h2
    unfold SlotR at hsl
    have OK : Hid (∀ w : World, Calls Tryd.prog 19 #[.agg #[.int .i64 (e0 : Int), .string s]] w fun e w' => e = .returned (.bool true) ∧ Below w.heap.size w w') := fun w => implSlotOK_any _ s true ⟨fun _ => h2, fun _ => rfl⟩ w
    have PL : Hid (∀ w : World, Calls Tryd.prog 20 #[.int .i64 (q : Int)] w fun e w' => e = .returned (.bool true) ∧ w = w') := fun w => isPlace_any _ true ⟨fun _ => by omega, fun _ => rfl⟩ w
    have SE : Hid (∀ w : World, Tabs w → Calls Tryd.prog 21 #[.string k, .int .i64 (q : Int), .agg #[.int .i64 (e0 : Int), .string s]] w fun e w' => RetO w.heap.size w' e (20 + s.size) (slotF k q e0 s) ∧ Below w.heap.size w w') := fun w h => sealedSlot_any k s q e0 h1 (by omega) (by omega) (by omega) w h
    have HT : Hid (Tabs w) := ht
    generalize slotF k q e0 s = GG at *
    have s0 := C0.out.c0
    have s1 := C0.out.c1
    clear h1 h2 h3 hsl ht
    go_enter Tryd.func8, Tryd.ntmps8
    go_wp2_with fail
    clear s0 s1
    generalize (w.alloc (.cells #[.int .i64 (e0 : Int), .string s] 28)) = v0 at *
    refine (OK.out _).mono ?_
    rintro e v1 ⟨rfl, hb⟩
    replace A1 : Hid (Below w.heap.size w v1) := A1.out.trans (hb.mono A1.out.size)
    have C1 := C0.out.below hb
    have s0 := C1.c0
    have s1 := C1.c1
    clear hb C0 C1
    go_wp2_with fail
    refine (PL.out _).mono ?_
    rintro e v2 ⟨rfl, rfl⟩
    go_wp2_with fail
    refine (SE.out _ (HT.out.below A1.out)).mono ?_
    rintro e v3 ⟨⟨g, c, rfl, how⟩, hb⟩
    obtain ⟨g2, c2, ⟨hg, -⟩, hv, ho⟩ := own8_of_own how (by intro h; cases h)
    cases hv
    have O3 : Hid (Own8 v3 g (20 + s.size) GG) := ho
    have G3 : Hid (w.heap.size ≤ g) := Nat.le_trans A1.out.size hg
    replace A1 : Hid (Below w.heap.size w v3) := A1.out.trans (hb.mono A1.out.size)
    clear hb s0 s1 how ho hg HT SE
    go_wp2
    go_ret2
    exact ⟨⟨_, _, rfl, .inr ⟨g, G3.out, rfl, O3.out⟩⟩, A1.out⟩
set_option maxRecDepth 100000 in
set_option maxHeartbeats 2000000 in
theorem specSlotBytes_any (k : ByteArray) (p ep : Int) (s : ByteArray) (n : Nat) (G : Nat → Nat) (code : Int) (hr : SbAns k p ep s n G code) (w : World) :
    Calls Tryd.prog 6 #[.string k, .int .i64 p, .agg #[.int .i64 ep, .string s]] w fun e w' => RetK w' e n G code ∧ Below w.heap.size w w' := by
  have A1 : Hid (Below w.heap.size w (w.alloc (.cells #[.int .i64 ep, .string s] 28))) := (Below.refl _ _).alloc (Nat.le_refl _) _
  have C0 : Hid (Sl2 w.heap.size ep s (w.alloc (.cells #[.int .i64 ep, .string s] 28))) := Sl2.made w _ _ _
  rcases hr with ⟨h1, rfl, rfl⟩ | ⟨h1, h2, rfl, rfl⟩ | ⟨h1, h2, h3, rfl, rfl⟩ | ⟨h1, h2, q, e0, rfl, rfl, h3, rfl, rfl, rfl⟩
  · have x1 : (65536 : Int) < (k.size : Int) := by omega
    clear h1
    go_enter Tryd.func6, Tryd.ntmps6
    go_wp2
    go_ret2
    exact ⟨⟨_, _, rfl, code8_zero _ _ _⟩, (A1.out).alloc (A1.out).size _⟩
  · have x1 : ¬ (65536 : Int) < (k.size : Int) := by omega
    rcases h2 with h2 | ⟨h2, h3⟩
    · have x3 : ((k.size : Int) != 32) = true := by rw [bne_iff_ne]; omega
      clear h1 h2
      go_enter Tryd.func6, Tryd.ntmps6
      go_wp2
      go_ret2
      exact ⟨⟨_, _, rfl, code8_zero _ _ _⟩, (A1.out).alloc (A1.out).size _⟩
    · have x3 : ((k.size : Int) != 32) = false := by rw [h2]; rfl
      have OK : Hid (∀ w : World, Calls Tryd.prog 16 #[.agg #[.int .i64 ep, .string s]] w fun e w' => e = .returned (.bool false) ∧ Below w.heap.size w w') := fun w => specSlotOK_any ep s false ⟨fun q => (by cases q), fun q => absurd q h3⟩ w
      have s0 := C0.out.c0
      have s1 := C0.out.c1
      clear h1 h2 h3
      go_enter Tryd.func6, Tryd.ntmps6
      go_wp2_with fail
      clear s0 s1
      generalize (w.alloc (.cells #[.int .i64 ep, .string s] 28)) = v0 at *
      refine (OK.out _).mono ?_
      rintro e v1 ⟨rfl, hb⟩
      replace A1 : Hid (Below w.heap.size w v1) := A1.out.trans (hb.mono A1.out.size)
      clear hb C0
      go_wp2
      go_ret2
      exact ⟨⟨_, _, rfl, code8_zero _ _ _⟩, (A1.out).alloc (A1.out).size _⟩
  · have x1 : ¬ (65536 : Int) < (k.size : Int) := by omega
    have x3 : ((k.size : Int) != 32) = false := by rw [h1]; rfl
    have OK : Hid (∀ w : World, Calls Tryd.prog 16 #[.agg #[.int .i64 ep, .string s]] w fun e w' => e = .returned (.bool true) ∧ Below w.heap.size w w') := fun w => specSlotOK_any ep s true ⟨fun _ => h2, fun _ => rfl⟩ w
    have PL : Hid (∀ w : World, Calls Tryd.prog 17 #[.int .i64 p, .int .i64 0, .int .i64 1] w fun e w' => e = .returned (.bool false) ∧ w = w') := fun w => in_any p 0 1 false (decide_eq_false h3).symm w
    have s0 := C0.out.c0
    have s1 := C0.out.c1
    clear h1 h2 h3
    go_enter Tryd.func6, Tryd.ntmps6
    go_wp2_with fail
    clear s0 s1
    generalize (w.alloc (.cells #[.int .i64 ep, .string s] 28)) = v0 at *
    refine (OK.out _).mono ?_
    rintro e v1 ⟨rfl, hb⟩
    replace A1 : Hid (Below w.heap.size w v1) := A1.out.trans (hb.mono A1.out.size)
    clear hb C0
    go_wp2_with fail
    refine (PL.out _).mono ?_
    rintro e v2 ⟨rfl, rfl⟩
    go_wp2
    go_ret2
    exact ⟨⟨_, _, rfl, code8_zero _ _ _⟩, (A1.out).alloc (A1.out).size _⟩
  · have x1 : ¬ (65536 : Int) < (k.size : Int) := by omega
    have x3 : ((k.size : Int) != 32) = false := by rw [h1]; rfl
    have hsl := h2
    unfold SlotR at hsl
    have OK : Hid (∀ w : World, Calls Tryd.prog 16 #[.agg #[.int .i64 (e0 : Int), .string s]] w fun e w' => e = .returned (.bool true) ∧ Below w.heap.size w w') := fun w => specSlotOK_any _ s true ⟨fun _ => h2, fun _ => rfl⟩ w
    have PL : Hid (∀ w : World, Calls Tryd.prog 17 #[.int .i64 (q : Int), .int .i64 0, .int .i64 1] w fun e w' => e = .returned (.bool true) ∧ w = w') := fun w => in_any _ 0 1 true (decide_eq_true (by omega)).symm w
    have SE : Hid (∀ w : World, Calls Tryd.prog 18 #[.string k, .int .i64 (q : Int), .agg #[.int .i64 (e0 : Int), .string s]] w fun e w' => RetM w.heap.size w' e (20 + s.size) (slotF k q e0 s) ∧ Below w.heap.size w w') := fun w => l06Bytes_any k s q e0 h1 (by omega) (by omega) (by omega) w
    generalize slotF k q e0 s = GG at *
    have s0 := C0.out.c0
    have s1 := C0.out.c1
    clear h1 h2 h3 hsl
    go_enter Tryd.func6, Tryd.ntmps6
    go_wp2_with fail
    clear s0 s1
    generalize (w.alloc (.cells #[.int .i64 (e0 : Int), .string s] 28)) = v0 at *
    refine (OK.out _).mono ?_
    rintro e v1 ⟨rfl, hb⟩
    replace A1 : Hid (Below w.heap.size w v1) := A1.out.trans (hb.mono A1.out.size)
    have C1 := C0.out.below hb
    have s0 := C1.c0
    have s1 := C1.c1
    clear hb C0 C1
    go_wp2_with fail
    refine (PL.out _).mono ?_
    rintro e v2 ⟨rfl, rfl⟩
    go_wp2_with fail
    refine (SE.out _).mono ?_
    rintro e v3 ⟨⟨g, c, rfl, hg, hm⟩, hb⟩
    have O3 : Hid (Code8 v3 (some ⟨g, 0, none⟩) (20 + s.size) GG) := hm.code
    replace A1 : Hid (Below w.heap.size w v3) := A1.out.trans (hb.mono A1.out.size)
    clear hb s0 s1 hg hm SE
    go_wp2
    go_ret2
    exact ⟨⟨_, _, rfl, O3.out⟩, A1.out⟩
set_option maxRecDepth 100000 in
set_option maxHeartbeats 4000000 in
theorem law_slotBytes (k : ByteArray) (p ep : Int) (s : ByteArray) (hs : s.size ≤ maxLen) (w : World) (ht : Tabs w) :
    Calls Tryd.prog 3 #[.string k, .int .i64 p, .agg #[.int .i64 ep, .string s]] w fun e w' => e = .returned (.bool true) ∧ Below w.heap.size w w' := by
  have A1 : Hid (Below w.heap.size w (w.alloc (.cells #[.int .i64 ep, .string s] 23))) := (Below.refl _ _).alloc (Nat.le_refl _) _
  by_cases hk : k.size ≤ 1048576
  · have x1 : ¬ (1048576 : Int) < (k.size : Int) := by omega
    obtain ⟨n, G, code, hr, hn⟩ := sbAns_ex k p ep s
    have SZ : Hid (∀ w : World, Calls Tryd.prog 5 #[.agg #[.int .i64 ep, .string s], .int .i64 1048576] w fun e w' => RetY e s.size ∧ Below w.heap.size w w') := fun w => szSlot_any ep s hs w
    have TS : Hid (∀ w : World, Calls Tryd.prog 7 #[.agg #[.int .i64 ep, .string s]] w fun e w' => e = .returned (.agg #[.int .i64 ep, .string s]) ∧ Below w.heap.size w w') := fun w => toSlot_any ep s w
    have SO : Hid (∀ w : World, Calls Tryd.prog 6 #[.string k, .int .i64 p, .agg #[.int .i64 ep, .string s]] w fun e w' => RetK w' e n G code ∧ Below w.heap.size w w') := fun w => specSlotBytes_any k p ep s n G code hr w
    have IY : Hid (∀ w : World, Tabs w → Calls Tryd.prog 8 #[.string k, .int .i64 p, .agg #[.int .i64 ep, .string s]] w fun e w' => RetI w w' e n G code ∧ Below w.heap.size w w') := fun w h => implSlotBytes_any k p ep s n G code hr w h
    have EB : Hid (∀ (a b : Option Addr) (c d : Nat) (w : World), Code8 w a n G → Code8 w b n G → Calls Tryd.prog 9 #[.slice a n c, .slice b n d] w fun e w' => e = .returned (.bool true) ∧ Below w.heap.size w w') := fun a b c d w h h' => (eqByteS_yes a b n c d G w h h' hn).mono fun e w' ⟨h, q, hq⟩ => ⟨h, by rw [hq]; exact below_drewN8 (Below.refl _ _) q⟩
    have MK : Hid (∀ (a : Option Addr) (B c : Nat) (w : World), OwnS w B a n G → B ≤ w.heap.size → Calls Tryd.prog 10 #[.slice a n c, .int .i64 1] w fun e w' => e = .returned (.int .i64 ((n + 1 : Nat) : Int)) ∧ OwnS w' B a n mk8 ∧ Below B w w') := fun a B c w h h' => markS a B n c G w h h' hn
    have HK : Hid (∀ (a : Option Addr) (c : Nat) (w : World), Code8 w a n mk8 → Calls Tryd.prog 11 #[.slice a n c, .int .i64 1] w fun e w' => e = .returned (.int .i64 ((n + 1 : Nat) : Int)) ∧ Below w.heap.size w w') := fun a c w h => (heldByteS_yes a n c w h hn).mono fun e w' ⟨h, q, hq⟩ => ⟨h, by rw [hq]; exact below_drewN8 (Below.refl _ _) q⟩
    obtain ⟨M, hM⟩ : ∃ M, M = n + 1 := ⟨_, rfl⟩
    rw [← hM] at MK HK
    have mm : ¬ (M : Int) < 0 := by omega
    have er : (code != code) = false := by simp
    have er2 : ((M : Int) != (M : Int)) = false := by simp
    have HT : Hid (Tabs w) := ht
    have C0 : Hid (Sl2 w.heap.size ep s (w.alloc (.cells #[.int .i64 ep, .string s] 23))) := Sl2.made w _ _ _
    have s0 := C0.out.c0
    have s1 := C0.out.c1
    clear hr hn hM hs hk ht
    go_enter Tryd.func3, Tryd.ntmps3
    go_wp2_with fail
    clear s0 s1
    generalize (w.alloc (.cells #[.int .i64 ep, .string s] 23)) = v0 at *
    refine (SZ.out _).mono ?_
    rintro e v1 ⟨⟨y, rfl, -⟩, hb⟩
    replace A1 : Hid (Below w.heap.size w v1) := A1.out.trans (hb.mono A1.out.size)
    replace C0 : Hid (Sl2 w.heap.size ep s v1) := C0.out.below hb
    clear hb SZ
    by_cases hy : y < 0
    · go_wp2
      go_ret
      exact ⟨rfl, A1.out⟩
    · have s0 := C0.out.c0
      have s1 := C0.out.c1
      go_wp2_with fail
      clear s0 s1 hy
      refine (TS.out _).mono ?_
      rintro e v2 ⟨rfl, hb⟩
      replace A1 : Hid (Below w.heap.size w v2) := A1.out.trans (hb.mono A1.out.size)
      replace C0 : Hid (Sl2 w.heap.size ep s v2) := C0.out.below hb
      clear hb
      go_wp2_with fail
      refine (SO.out _).mono ?_
      rintro e v3 ⟨⟨wa, wc, rfl, hcd⟩, hb⟩
      replace A1 : Hid (Below w.heap.size w v3) := A1.out.trans (hb.mono A1.out.size)
      replace C0 : Hid (Sl2 w.heap.size ep s v3) := C0.out.below hb
      have WD : Hid (Code8 v3 wa n G) := hcd
      clear hb hcd SO
      have s0 := C0.out.c0
      have s1 := C0.out.c1
      go_wp2_with fail
      clear s0 s1
      refine (TS.out _).mono ?_
      rintro e v4 ⟨rfl, hb⟩
      replace A1 : Hid (Below w.heap.size w v4) := A1.out.trans (hb.mono A1.out.size)
      replace C0 : Hid (Sl2 w.heap.size ep s v4) := C0.out.below hb
      replace WD : Hid (Code8 v4 wa n G) := WD.out.below hb
      clear hb
      go_wp2_with fail
      have BW : Hid (w.heap.size ≤ v4.heap.size) := A1.out.size
      have WV : Hid (Code8 v4 wa n G) := WD.out
      have CV : Hid (Sl2 w.heap.size ep s v4) := C0.out
      clear WD C0
      have B4 : Hid (Below v4.heap.size v4 v4) := Below.refl _ _
      refine (IY.out _ (HT.out.below A1.out)).mono ?_
      rintro e v5 ⟨⟨ga, gc, rfl, hos⟩, hb⟩
      replace A1 : Hid (Below w.heap.size w v5) := A1.out.trans (hb.mono A1.out.size)
      replace B4 : Hid (Below v4.heap.size v4 v5) := hb
      have OG : Hid (OwnS v5 v4.heap.size ga n G) := hos
      clear hb hos
      go_wp2_with fail
      refine (EB.out _ _ _ _ _ OG.out.code (WV.out.below B4.out)).mono ?_
      rintro e v6 ⟨rfl, hb⟩
      replace A1 : Hid (Below w.heap.size w v6) := A1.out.trans (hb.mono A1.out.size)
      replace B4 : Hid (Below v4.heap.size v4 v6) := B4.out.trans (hb.mono B4.out.size)
      replace OG : Hid (OwnS v6 v4.heap.size ga n G) := OG.out.below hb
      clear hb
      go_wp2_with fail
      refine (MK.out _ v4.heap.size _ _ OG.out B4.out.size).mono ?_
      rintro e v7 ⟨rfl, hos, hb⟩
      replace A1 : Hid (Below w.heap.size w v7) := A1.out.trans (hb.mono BW.out)
      replace B4 : Hid (Below v4.heap.size v4 v7) := B4.out.trans hb
      replace OG : Hid (OwnS v7 v4.heap.size ga n mk8) := hos
      clear hb hos MK
      go_wp2_with fail
      refine (HK.out _ _ _ OG.out.code).mono ?_
      rintro e v8 ⟨rfl, hb⟩
      replace A1 : Hid (Below w.heap.size w v8) := A1.out.trans (hb.mono A1.out.size)
      replace B4 : Hid (Below v4.heap.size v4 v8) := B4.out.trans (hb.mono B4.out.size)
      replace OG : Hid (OwnS v8 v4.heap.size ga n mk8) := OG.out.below hb
      clear hb
      have C8 := CV.out.below B4.out
      have s0 := C8.c0
      have s1 := C8.c1
      go_wp2_with fail
      clear s0 s1 C8
      refine (TS.out _).mono ?_
      rintro e v9 ⟨rfl, hb⟩
      replace A1 : Hid (Below w.heap.size w v9) := A1.out.trans (hb.mono A1.out.size)
      replace B4 : Hid (Below v4.heap.size v4 v9) := B4.out.trans (hb.mono B4.out.size)
      replace OG : Hid (OwnS v9 v4.heap.size ga n mk8) := OG.out.below hb
      clear hb TS
      go_wp2_with fail
      refine (IY.out _ (HT.out.below A1.out)).mono ?_
      rintro e v10 ⟨⟨ha, hc, rfl, hos⟩, hb⟩
      replace A1 : Hid (Below w.heap.size w v10) := A1.out.trans (hb.mono A1.out.size)
      replace B4 : Hid (Below v4.heap.size v4 v10) := B4.out.trans (hb.mono B4.out.size)
      replace OG : Hid (OwnS v10 v4.heap.size ga n mk8) := OG.out.below hb
      have HD : Hid (Code8 v10 ha n G) := hos.code
      clear hb hos IY HT
      go_wp2_with fail
      refine (EB.out _ _ _ _ _ HD.out (WV.out.below B4.out)).mono ?_
      rintro e v11 ⟨rfl, hb⟩
      replace A1 : Hid (Below w.heap.size w v11) := A1.out.trans (hb.mono A1.out.size)
      replace OG : Hid (OwnS v11 v4.heap.size ga n mk8) := OG.out.below hb
      clear hb HD EB
      go_wp2_with fail
      refine (HK.out _ _ _ OG.out.code).mono ?_
      rintro e v12 ⟨rfl, hb⟩
      replace A1 : Hid (Below w.heap.size w v12) := A1.out.trans (hb.mono A1.out.size)
      clear hb OG HK
      go_wp2
      go_ret
      exact ⟨rfl, A1.out⟩
  · have x1 : (1048576 : Int) < (k.size : Int) := by omega
    clear hs ht
    go_enter Tryd.func3, Tryd.ntmps3
    go_wp2
    go_ret
    exact ⟨rfl, A1.out⟩
end Go.Proofs.YtbecnaabmlkjjabDoor

/-
  A slot among the arguments, opened.
-/
namespace Go.Proofs.YtbecnaabmlkjjabDoor
open Go.ChangeShapes Go.WideShapes Go.ChangeAt Go.RowKit
set_option maxRecDepth 100000 in
/-- A slot among the arguments. -/
theorem openSlot {H : Type} {enc : TypeId × Value → H} {W : World} {base : Nat} {v : Value} {d : DataW H} {ps : List MemPlace} (hok : Value.okWide Tryd.prog W .any base 23 v) (h : DataW.Trod enc Tryd.prog W 0 (fun _ => true) true 23 v d ps) :
    ∃ (ep : Int) (s : ByteArray), v = .agg #[.int .i64 ep, .string s] ∧ s.size ≤ maxLen := by
  obtain ⟨cs, rfl, hsz⟩ := okWide_struct Tryd.underlying23 hok
  obtain ⟨fuel, hf⟩ := h
  obtain ⟨y0, y1, n, _, hl, h0, h1⟩ := trod_struct2 Tryd.underlying23 hf
  have hc2 : Tryd.prog.cellsOf 23 = 2 := by kernel_rfl
  have hcS : Tryd.prog.cellsOf 9 = 1 := by kernel_rfl
  have hcI : Tryd.prog.cellsOf 3 = 1 := by kernel_rfl
  rw [hc2] at hsz
  obtain ⟨l⟩ := cs
  match l, hsz with
  | [c0, c1], _ =>
    simp only [Value.cells, hcS, hcI, List.drop_zero, List.take_succ_cons, List.take_zero, List.drop_succ_cons] at h0 h1
    obtain ⟨x0, e0, _⟩ := DataW.trod_int Tryd.underlying3 h0
    obtain ⟨s, e1, _, hz⟩ := DataW.trod_string Tryd.underlying9 h1
    obtain rfl := (List.cons.inj e0).1
    obtain rfl := (List.cons.inj e1).1
    exact ⟨x0, s, rfl, hz⟩
end Go.Proofs.YtbecnaabmlkjjabDoor
