/-
  Texts of the proof, joined: OpenP, LawFnSupers.
-/
import Derived.Test.YtkmakpbphdjbcaaGreatDoorQ52
import Derived.Test.YtkmakpbphdjbcaaGreatDoorQ53
import Derived.Test.YtkmakpbphdjbcaaGreatDoorQ34
import Derived.Test.YtkmakpbphdjbcaaGreatDoorQ40
import Derived.Test.YtkmakpbphdjbcaaGreatDoorQ33
import Derived.Test.YtkmakpbphdjbcaaGreatDoorQ31
import Derived.Test.YtkmakpbphdjbcaaGreatDoorQ23
import Derived.Test.YtkmakpbphdjbcaaGreatDoorQ13
namespace Go.Proofs.YtkmakpbphdjbcaaGreatDoor
open Go.ChangeShapes Go.WideShapes Go.ChangeAt Go.RowKit
set_option linter.unusedVariables false
def pcOpn (k : ByteArray) (P V n : Nat) (t : ByteArray) : ByteArray := kstr (streamF k (pcNon P V) (strB t)) 0 n
def pcOk (k : ByteArray) (P V n : Nat) (t : ByteArray) : Bool := okT k (pcNon P V) 5 pieceX n (strB t)
def OpnIs (k : ByteArray) (P V : Nat) (t T : ByteArray) : Prop := ∃ n, t.size = n + 16 ∧ pcOk k P V n t = true ∧ (1 ≤ n ∧ n ≤ 64) ∧ T = pcOpn k P V n t
def OpIs (k : ByteArray) (p v : Int) (t T : ByteArray) (c : Int) : Prop :=
  (PfP k p v t c ∧ c ≠ 0 ∧ T = ⟨#[]⟩) ∨ (PfP k p v t 0 ∧ (∀ T, ¬ OpnIs k p.toNat v.toNat t T) ∧ c = 10 ∧ T = ⟨#[]⟩) ∨ (PfP k p v t 0 ∧ OpnIs k p.toNat v.toNat t T ∧ c = 0)
theorem OpIs.ex (k : ByteArray) (p v : Int) (t : ByteArray) : ∃ T c, OpIs k p v t T c := by
  obtain ⟨c, h⟩ := PfP.ex k p v t
  by_cases hc : c = 0
  · subst hc
    by_cases h1 : ∃ T, OpnIs k p.toNat v.toNat t T
    · obtain ⟨T, h1⟩ := h1
      exact ⟨T, _, .inr (.inr ⟨h, h1, rfl⟩)⟩
    · exact ⟨_, _, .inr (.inl ⟨h, fun T q => h1 ⟨T, q⟩, rfl, rfl⟩)⟩
  · exact ⟨_, _, .inl ⟨h, hc, rfl⟩⟩
theorem convNil (w : World) : (convert 22 9 (.slice none 0 0)).run Tryz.prog w = .ok (.string ⟨#[]⟩) w := by
  simp [convert, run_underlying Tryz.underlying22, run_underlying Tryz.underlying9, run_underlying Tryz.underlying5, Conv.bytesToString]
  rfl
def RetOb (w w' : World) (e : Ending) (k : ByteArray) (P V : Nat) (t : ByteArray) (T : ByteArray) (ok : Bool) : Prop := ∃ (a : Option Addr) (n c : Nat) (x : Int), e = .returned (.tuple #[.slice a n c, .int .i64 x]) ∧ (∀ u, Below w'.heap.size w' u → (convert 22 9 (.slice a n c)).run Tryz.prog u = .ok (.string T) u) ∧ (if ok then x = 0 else x ≠ 0)
set_option maxRecDepth 100000 in
set_option maxHeartbeats 4000000 in
theorem implOpenP_any (k : ByteArray) (p v : Int) (t T : ByteArray) (c : Int) (hA : OpIs k p v t T c) (w : World) (ht : Tabs w) :
    Calls Tryz.prog 16 #[.string k, .int .i64 p, .int .i64 v, .string t] w fun e w' => e = .returned (.tuple #[.string T, .int .i64 c]) ∧ Below w.heap.size w w' := by
  by_cases hc : PfP k p v t 0
  · obtain ⟨htz, hk, hp, hv⟩ := hc.zero
    obtain ⟨P, rfl⟩ := Int.eq_ofNat_of_zero_le hp.1
    obtain ⟨V, rfl⟩ := Int.eq_ofNat_of_zero_le (show 0 ≤ v by omega)
    have PF : Hid (∀ w : World, Calls Tryz.prog 32 #[.string k, .int .i64 (P : Int), .int .i64 (V : Int), .string t] w fun e w' => e = .returned (.int .i64 0) ∧ w = w') := pieceFault_any k P V t 0 hc
    have NO : Hid (∀ w : World, Calls Tryz.prog 35 #[.int .i64 (P : Int), .int .i64 (V : Int)] w fun e w' => e = .returned (.string (pcNon P V)) ∧ Below w.heap.size w w') := fun w => pieceNonce_any P V (by omega) (by omega) w
    have hA2 : ((∀ T, ¬ OpnIs k P V t T) ∧ c = 10 ∧ T = ⟨#[]⟩) ∨ (OpnIs k P V t T ∧ c = 0) := by
      rcases hA with ⟨h, hc2, rfl⟩ | ⟨h, h1, h2⟩ | ⟨h, h1⟩
      · have : c = 0 := by
          rcases h with ⟨rfl, h⟩ | ⟨rfl, _, _, h⟩ | ⟨rfl, _, _, h⟩ | ⟨rfl, _⟩
          · rcases h with h | h
            · omega
            · exact absurd h htz
          · exact absurd hk h
          · exact absurd ⟨hp, hv⟩ h
          · rfl
        exact absurd this hc2
      · exact .inl ⟨h1, h2⟩
      · exact .inr h1
    have HT : Hid (Tabs w) := ht
    -- what OpenBytes answers
    have OB : Hid (∃ (TT : ByteArray) (ok : Bool), (∀ (xb xc b c : Nat) (w : World), t.size ≤ c → Code8 w (some ⟨xb, 0, none⟩) 5 pieceX → Code8 w (some ⟨b, 0, none⟩) t.size (strB t) → Tabs w → Calls Tryz.prog 39 #[.string k, .string (pcNon P V), .slice (some ⟨xb, 0, none⟩) 5 xc, .slice (some ⟨b, 0, none⟩) t.size c] w fun e w' => RetOb w w' e k P V t TT ok ∧ Below w.heap.size w w') ∧ ((ok = true ∧ (1 ≤ TT.size ∧ TT.size ≤ 64) ∧ TT = T ∧ c = 0) ∨ (¬ (ok = true ∧ (1 ≤ TT.size ∧ TT.size ≤ 64)) ∧ T = ⟨#[]⟩ ∧ c = 10))) := by
      show ∃ _, _
      by_cases h16 : t.size < 16
      · refine ⟨⟨#[]⟩, false, fun xb xc b c w hcc h1 h2 h3 => (implOpen_form k (pcNon P V) _ _ 5 xc t.size c h16 (sfault_ok k _ 5 t.size 65536 hk (kstr_size _ _ _) (by omega) (by omega)) w).mono ?_, ?_⟩
        · rintro e w' ⟨rfl, rfl⟩
          exact ⟨⟨none, 0, 0, 3, rfl, fun u _ => convNil u, by show (3 : Int) ≠ 0; decide⟩, Below.refl _ _⟩
        · refine .inr ⟨fun q => (by cases q.1), ?_⟩
          rcases hA2 with ⟨_, rfl, rfl⟩ | ⟨⟨n, hn, _⟩, _⟩
          · exact ⟨rfl, rfl⟩
          · omega
      · obtain ⟨n, hn⟩ : ∃ n, t.size = n + 16 := ⟨t.size - 16, by omega⟩
        by_cases ho : pcOk k P V n t = true
        · refine ⟨pcOpn k P V n t, true, fun xb xc b c w hcc h1 h2 h3 => ?_, ?_⟩
          · have := implOpen_yes k (pcNon P V) xb 0 5 xc b n c pieceX (strB t) hk (kstr_size _ _ _) (by omega) (by omega) (by omega) pieceX_lt (strB_lt _) w h1 (by rw [← hn]; exact h2) h3
            rw [← hn] at this
            refine this.mono ?_
            rintro e w' ⟨hr, hb⟩
            have hr2 : RetB2 w w' e n (streamF k (pcNon P V) (strB t)) (.int .i64 0) := by
              unfold RetOpen at hr
              rwa [if_pos (show okT k (pcNon P V) 5 pieceX n (strB t) = true from ho)] at hr
            obtain ⟨b2, c2, _, rfl, ho2⟩ := hr2
            exact ⟨⟨_, n, c2, 0, rfl, fun u hu => kstr_of_code (ho2.code.below hu), by show (0 : Int) = 0; rfl⟩, hb⟩
          · have es : (pcOpn k P V n t).size = n := kstr_size _ _ _
            rw [es]
            rcases hA2 with ⟨h1, rfl, rfl⟩ | ⟨⟨m, hm, h2, h3, h4⟩, rfl⟩
            · exact .inr ⟨fun q => h1 _ ⟨n, hn, ho, q.2, rfl⟩, rfl, rfl⟩
            · obtain rfl : m = n := by omega
              exact .inl ⟨rfl, h3, h4.symm, rfl⟩
        · refine ⟨⟨#[]⟩, false, fun xb xc b c w hcc h1 h2 h3 => ?_, ?_⟩
          · have := implOpen_yes k (pcNon P V) xb 0 5 xc b n c pieceX (strB t) hk (kstr_size _ _ _) (by omega) (by omega) (by omega) pieceX_lt (strB_lt _) w h1 (by rw [← hn]; exact h2) h3
            rw [← hn] at this
            refine this.mono ?_
            rintro e w' ⟨hr, hb⟩
            unfold RetOpen at hr
            rw [if_neg (show ¬ okT k (pcNon P V) 5 pieceX n (strB t) = true from ho)] at hr
            subst hr
            exact ⟨⟨none, 0, 0, 10, rfl, fun u _ => convNil u, by show (10 : Int) ≠ 0; decide⟩, hb⟩
          · refine .inr ⟨fun q => (by cases q.1), ?_⟩
            rcases hA2 with ⟨_, rfl, rfl⟩ | ⟨⟨m, hm, h2, _⟩, _⟩
            · exact ⟨rfl, rfl⟩
            · obtain rfl : m = n := by omega
              exact absurd h2 ho
    obtain ⟨TT, ok, hOB, hcs⟩ := OB.out
    have OY : Hid (∀ (xb xc b c : Nat) (w : World), t.size ≤ c → Code8 w (some ⟨xb, 0, none⟩) 5 pieceX → Code8 w (some ⟨b, 0, none⟩) t.size (strB t) → Tabs w → Calls Tryz.prog 39 #[.string k, .string (pcNon P V), .slice (some ⟨xb, 0, none⟩) 5 xc, .slice (some ⟨b, 0, none⟩) t.size c] w fun e w' => RetOb w w' e k P V t TT ok ∧ Below w.heap.size w w') := hOB
    have HCS : Hid ((ok = true ∧ (1 ≤ TT.size ∧ TT.size ≤ 64) ∧ TT = T ∧ c = 0) ∨ (¬ (ok = true ∧ (1 ≤ TT.size ∧ TT.size ≤ 64)) ∧ T = ⟨#[]⟩ ∧ c = 10)) := hcs
    clear hA hA2 OB hOB hcs hc htz hk hp hv ht
    generalize pcNon P V = NN at *
    go_enter Tryz.func16, Tryz.ntmps16
    go_wp2_with fail
    refine (PF.out _).mono ?_
    rintro e _ ⟨rfl, rfl⟩
    go_wp2_with fail
    refine (NO.out _).mono ?_
    rintro e v2 ⟨rfl, hb⟩
    have A1 : Hid (Below w.heap.size w v2) := hb
    clear hb NO PF
    have hcv1 : (convert 22 22 (.slice (some ⟨v2.heap.size, 0, none⟩) 5 5)).run Tryz.prog (v2.alloc (.cells #[.int .u8 112, .int .u8 105, .int .u8 101, .int .u8 99, .int .u8 101] 5)) = .ok (.slice (some ⟨v2.heap.size, 0, none⟩) 5 5) (v2.alloc (.cells #[.int .u8 112, .int .u8 105, .int .u8 101, .int .u8 99, .int .u8 101] 5 (5, 6))) := conv_rowS v2 #[.int .u8 112, .int .u8 105, .int .u8 101, .int .u8 99, .int .u8 101] 5 5
    have hbA : Below v2.heap.size v2 (v2.alloc (.cells #[.int .u8 112, .int .u8 105, .int .u8 101, .int .u8 99, .int .u8 101] 5 (5, 6))) := (Below.refl _ _).alloc (Nat.le_refl _) _
    have X3 : Hid (Code8 (v2.alloc (.cells #[.int .u8 112, .int .u8 105, .int .u8 101, .int .u8 99, .int .u8 101] 5 (5, 6))) (some ⟨v2.heap.size, 0, none⟩) 5 pieceX) := piece_code v2
    replace A1 : Hid (Below w.heap.size w (v2.alloc (.cells #[.int .u8 112, .int .u8 105, .int .u8 101, .int .u8 99, .int .u8 101] 5 (5, 6)))) := A1.out.trans (hbA.mono A1.out.size)
    clear hbA
    generalize (v2.alloc (.cells #[.int .u8 112, .int .u8 105, .int .u8 101, .int .u8 99, .int .u8 101] 5 (5, 6))) = v3 at *
    obtain ⟨v4, c4, hcv, hk4, hb4, hgc4⟩ := bytesOfM t v3
    have X4 : Hid (Code8 v4 (some ⟨v2.heap.size, 0, none⟩) 5 pieceX) := X3.out.below hb4
    have K4 : Hid (Code8 v4 (some ⟨v3.heap.size, 0, none⟩) t.size (strB t)) := hk4
    have B4 : Hid (Below w.heap.size w v4) := A1.out.trans (hb4.mono A1.out.size)
    have G4 : Hid (t.size ≤ c4) := hgc4
    clear hk4 hb4 X3 A1 hgc4
    go_wp2_with fail
    refine (OY.out _ _ _ _ _ G4.out X4.out K4.out (HT.out.below B4.out)).mono ?_
    rintro e v5 ⟨⟨a5, n5, c5, x5, rfl, hcv5, hx5⟩, hb⟩
    have B5 : Hid (Below w.heap.size w v5) := B4.out.trans (hb.mono B4.out.size)
    have cv5 := hcv5 v5 (Below.refl _ _)
    clear hb hcv hcv1 hcv5 X4 K4 B4 OY HT G4
    cases ok with
    | false =>
      have x0 : x5 ≠ 0 := hx5
      have e1 : (x5 != 0) = true := by simp [x0]
      obtain ⟨rfl, rfl⟩ : T = ⟨#[]⟩ ∧ c = 10 := by
        rcases HCS.out with ⟨q, _⟩ | ⟨_, q⟩
        · cases q
        · exact q
      clear HCS hx5 x0
      go_wp2
      exact bodyPost_ret (results_tmp2 Tryz.results16 _ _ _) rfl ⟨rfl, B5.out⟩
    | true =>
      obtain rfl : x5 = 0 := hx5
      by_cases hz : 1 ≤ TT.size ∧ TT.size ≤ 64
      · have IP : Hid (∀ w : World, Calls Tryz.prog 33 #[.string TT] w fun e w' => e = .returned (.bool true) ∧ w = w') := fun w => isPieceP TT true (by simp; omega) w
        obtain ⟨rfl, rfl⟩ : TT = T ∧ c = 0 := by
          rcases HCS.out with ⟨_, _, q⟩ | ⟨q, _⟩
          · exact q
          · exact absurd ⟨rfl, hz⟩ q
        clear HCS hz
        go_wp2_with fail
        refine (IP.out _).mono ?_
        rintro e _ ⟨rfl, rfl⟩
        go_wp2
        exact bodyPost_ret (results_tmp2 Tryz.results16 _ _ _) rfl ⟨rfl, B5.out⟩
      · have IP : Hid (∀ w : World, Calls Tryz.prog 33 #[.string TT] w fun e w' => e = .returned (.bool false) ∧ w = w') := fun w => isPieceP TT false (by simp; omega) w
        obtain ⟨rfl, rfl⟩ : T = ⟨#[]⟩ ∧ c = 10 := by
          rcases HCS.out with ⟨_, q, _⟩ | ⟨_, q⟩
          · exact absurd q hz
          · exact q
        clear HCS hz
        go_wp2_with fail
        refine (IP.out _).mono ?_
        rintro e _ ⟨rfl, rfl⟩
        go_wp2
        exact bodyPost_ret (results_tmp2 Tryz.results16 _ _ _) rfl ⟨rfl, B5.out⟩
  · obtain ⟨h, hc2, rfl⟩ : PfP k p v t c ∧ c ≠ 0 ∧ T = ⟨#[]⟩ := by
      rcases hA with h | ⟨h, _⟩ | ⟨h, _⟩
      · exact h
      · exact absurd h hc
      · exact absurd h hc
    have PF : Hid (∀ w : World, Calls Tryz.prog 32 #[.string k, .int .i64 p, .int .i64 v, .string t] w fun e w' => e = .returned (.int .i64 c) ∧ w = w') := pieceFault_any k p v t c h
    have e1 : (c != 0) = true := by simp [hc2]
    clear h hc hc2 ht hA
    go_enter Tryz.func16, Tryz.ntmps16
    go_wp2_with fail
    refine (PF.out _).mono ?_
    rintro e _ ⟨rfl, rfl⟩
    go_wp2
    exact bodyPost_ret (results_tmp2 Tryz.results16 _ _ _) rfl ⟨rfl, Below.refl _ _⟩
set_option maxRecDepth 100000 in
theorem l04Open_short (k s : ByteArray) (a b : Option Addr) (m x n c : Nat) (hn : n < 16) (w : World) :
    Calls Tryz.prog 62 #[.string k, .string s, .slice a m x, .slice b n c] w fun e w' => (∃ g, e = .returned (.tuple #[.slice (some ⟨g, 0, none⟩) 0 0, .bool false])) ∧ Below w.heap.size w w' := by
  have n0 : (n : Int) - 16 < 0 := by omega
  have n1 : (n : Int) < 16 := by omega
  go_enter Tryz.func62, Tryz.ntmps62
  go_wp2
  exact bodyPost_ret (results_tmp2 Tryz.results62 _ _ _) rfl ⟨⟨_, rfl⟩, (Below.refl _ _).alloc (Nat.le_refl _) _⟩
theorem convNone (a : Option Addr) (c : Nat) (w : World) : (convert 22 9 (.slice a 0 c)).run Tryz.prog w = .ok (.string ⟨#[]⟩) w := by
  cases a with
  | none =>
    simp [convert, run_underlying Tryz.underlying22, run_underlying Tryz.underlying9, run_underlying Tryz.underlying5, Conv.bytesToString]
    rfl
  | some x =>
    simp [convert, run_underlying Tryz.underlying22, run_underlying Tryz.underlying9, run_underlying Tryz.underlying5, Conv.bytesToString]
    rfl
def OpX (e : Ending) (r : Bool) (T : ByteArray) : Prop := ∃ X, e = .returned (.tuple #[.string X, .bool r]) ∧ (r = true → X = T)
def RetOs (w' : World) (e : Ending) (T : ByteArray) (ok : Bool) : Prop := ∃ (a : Option Addr) (n c : Nat), e = .returned (.tuple #[.slice a n c, .bool ok]) ∧ n = T.size ∧ (∀ u, Below w'.heap.size w' u → (convert 22 9 (.slice a n c)).run Tryz.prog u = .ok (.string T) u)
set_option maxRecDepth 100000 in
set_option maxHeartbeats 4000000 in
theorem l12Open_any (k : ByteArray) (P V : Nat) (t : ByteArray) (hk : k.size = 32) (hP : P < 16) (hV : V ≤ 65535) (htz : ¬ 65536 < t.size) (T : ByteArray) (r : Bool) (hA : (r = true ∧ OpnIs k P V t T) ∨ (r = false ∧ ∀ T, ¬ OpnIs k P V t T)) (w : World) :
    Calls Tryz.prog 40 #[.string k, .int .i64 (P : Int), .int .i64 (V : Int), .string t] w fun e w' => OpX e r T ∧ Below w.heap.size w w' := by
  have NO : Hid (∀ w : World, Calls Tryz.prog 60 #[.int .i64 (16 + (P : Int)), .int .i64 (V : Int)] w fun e w' => e = .returned (.string (pcNon P V)) ∧ Below w.heap.size w w') := fun w => by
    have := l04Nonce_any (16 + P) V (by omega) (by omega) w
    rw [show ((16 + P : Nat) : Int) = 16 + (P : Int) from by omega] at this
    exact this
  have p0 : (P : Int) < 16 := by omega
  have p1 : (0 : Int) ≤ (P : Int) := by omega
  obtain ⟨TT, ok, hOB, hcs⟩ : ∃ (TT : ByteArray) (ok : Bool), (∀ (xb xc b c : Nat) (w : World), t.size ≤ c → Code8 w (some ⟨xb, 0, none⟩) 5 pieceX → Code8 w (some ⟨b, 0, none⟩) t.size (strB t) → Calls Tryz.prog 62 #[.string k, .string (pcNon P V), .slice (some ⟨xb, 0, none⟩) 5 xc, .slice (some ⟨b, 0, none⟩) t.size c] w fun e w' => RetOs w' e TT ok ∧ Below w.heap.size w w') ∧ ((ok = true ∧ (1 ≤ TT.size ∧ TT.size ≤ 64) ∧ TT = T ∧ r = true) ∨ (¬ (ok = true ∧ (1 ≤ TT.size ∧ TT.size ≤ 64)) ∧ r = false)) := by
    by_cases h16 : t.size < 16
    · refine ⟨⟨#[]⟩, false, fun xb xc b c w hcc h1 h2 => (l04Open_short k (pcNon P V) _ _ 5 xc t.size c h16 w).mono ?_, ?_⟩
      · rintro e w' ⟨⟨g, rfl⟩, hb⟩
        exact ⟨⟨_, 0, 0, rfl, rfl, fun u _ => convNone _ _ u⟩, hb⟩
      · refine .inr ⟨fun q => (by cases q.1), ?_⟩
        rcases hA with ⟨_, n, hn, _⟩ | ⟨rfl, _⟩
        · omega
        · rfl
    · obtain ⟨n, hn⟩ : ∃ n, t.size = n + 16 := ⟨t.size - 16, by omega⟩
      by_cases ho : pcOk k P V n t = true
      · refine ⟨pcOpn k P V n t, true, fun xb xc b c w hcc h1 h2 => ?_, ?_⟩
        · have := l04Open_any k (pcNon P V) xb 0 5 xc b n c pieceX (strB t) hk (kstr_size _ _ _) (by omega) (by omega) (by omega) pieceX_lt (strB_lt _) w h1 (by rw [← hn]; exact h2)
          rw [← hn] at this
          refine this.mono ?_
          rintro e w' ⟨hr, hb⟩
          have hr2 : RetB2 w w' e n (streamF k (pcNon P V) (strB t)) (.bool true) := by
            unfold RetOpenS at hr
            rwa [if_pos (show okT k (pcNon P V) 5 pieceX n (strB t) = true from ho)] at hr
          obtain ⟨b2, c2, _, rfl, ho2⟩ := hr2
          exact ⟨⟨_, n, c2, rfl, (kstr_size _ _ _).symm, fun u hu => kstr_of_code (ho2.code.below hu)⟩, hb⟩
        · have es : (pcOpn k P V n t).size = n := kstr_size _ _ _
          rw [es]
          rcases hA with ⟨rfl, m, hm, h2, h3, h4⟩ | ⟨rfl, h1⟩
          · obtain rfl : m = n := by omega
            exact .inl ⟨rfl, h3, h4.symm, rfl⟩
          · exact .inr ⟨fun q => h1 _ ⟨n, hn, ho, q.2, rfl⟩, rfl⟩
      · refine ⟨⟨#[]⟩, false, fun xb xc b c w hcc h1 h2 => ?_, ?_⟩
        · have := l04Open_any k (pcNon P V) xb 0 5 xc b n c pieceX (strB t) hk (kstr_size _ _ _) (by omega) (by omega) (by omega) pieceX_lt (strB_lt _) w h1 (by rw [← hn]; exact h2)
          rw [← hn] at this
          refine this.mono ?_
          rintro e w' ⟨hr, hb⟩
          unfold RetOpenS at hr
          rw [if_neg (show ¬ okT k (pcNon P V) 5 pieceX n (strB t) = true from ho)] at hr
          obtain ⟨a9, c9, rfl⟩ := hr
          exact ⟨⟨a9, 0, c9, rfl, rfl, fun u _ => convNone _ _ u⟩, hb⟩
        · refine .inr ⟨fun q => (by cases q.1), ?_⟩
          rcases hA with ⟨_, m, hm, h2, _⟩ | ⟨rfl, _⟩
          · obtain rfl : m = n := by omega
            exact absurd h2 ho
          · rfl
  have OY : Hid (∀ (xb xc b c : Nat) (w : World), t.size ≤ c → Code8 w (some ⟨xb, 0, none⟩) 5 pieceX → Code8 w (some ⟨b, 0, none⟩) t.size (strB t) → Calls Tryz.prog 62 #[.string k, .string (pcNon P V), .slice (some ⟨xb, 0, none⟩) 5 xc, .slice (some ⟨b, 0, none⟩) t.size c] w fun e w' => RetOs w' e TT ok ∧ Below w.heap.size w w') := hOB
  have HCS : Hid ((ok = true ∧ (1 ≤ TT.size ∧ TT.size ≤ 64) ∧ TT = T ∧ r = true) ∨ (¬ (ok = true ∧ (1 ≤ TT.size ∧ TT.size ≤ 64)) ∧ r = false)) := hcs
  have HRT : Hid (OpX (.returned (.tuple #[.string TT, .bool r])) r T) := ⟨TT, rfl, fun q => by
    rcases HCS.out with ⟨_, _, h, _⟩ | ⟨_, h⟩
    · exact h
    · rw [q] at h; cases h⟩
  clear hA hOB hcs htz hk hP hV
  generalize pcNon P V = NN at *
  go_enter Tryz.func40, Tryz.ntmps40
  go_wp2_with fail
  refine (NO.out _).mono ?_
  rintro e v2 ⟨rfl, hb⟩
  have A1 : Hid (Below w.heap.size w v2) := hb
  clear hb NO
  have hcv1 : (convert 22 22 (.slice (some ⟨v2.heap.size, 0, none⟩) 5 5)).run Tryz.prog (v2.alloc (.cells #[.int .u8 112, .int .u8 105, .int .u8 101, .int .u8 99, .int .u8 101] 5)) = .ok (.slice (some ⟨v2.heap.size, 0, none⟩) 5 5) (v2.alloc (.cells #[.int .u8 112, .int .u8 105, .int .u8 101, .int .u8 99, .int .u8 101] 5 (5, 6))) := conv_rowS v2 #[.int .u8 112, .int .u8 105, .int .u8 101, .int .u8 99, .int .u8 101] 5 5
  have hbA : Below v2.heap.size v2 (v2.alloc (.cells #[.int .u8 112, .int .u8 105, .int .u8 101, .int .u8 99, .int .u8 101] 5 (5, 6))) := (Below.refl _ _).alloc (Nat.le_refl _) _
  have X3 : Hid (Code8 (v2.alloc (.cells #[.int .u8 112, .int .u8 105, .int .u8 101, .int .u8 99, .int .u8 101] 5 (5, 6))) (some ⟨v2.heap.size, 0, none⟩) 5 pieceX) := piece_code v2
  replace A1 : Hid (Below w.heap.size w (v2.alloc (.cells #[.int .u8 112, .int .u8 105, .int .u8 101, .int .u8 99, .int .u8 101] 5 (5, 6)))) := A1.out.trans (hbA.mono A1.out.size)
  clear hbA
  generalize (v2.alloc (.cells #[.int .u8 112, .int .u8 105, .int .u8 101, .int .u8 99, .int .u8 101] 5 (5, 6))) = v3 at *
  obtain ⟨v4, c4, hcv, hk4, hb4, hgc4⟩ := bytesOfM t v3
  have X4 : Hid (Code8 v4 (some ⟨v2.heap.size, 0, none⟩) 5 pieceX) := X3.out.below hb4
  have K4 : Hid (Code8 v4 (some ⟨v3.heap.size, 0, none⟩) t.size (strB t)) := hk4
  have B4 : Hid (Below w.heap.size w v4) := A1.out.trans (hb4.mono A1.out.size)
  have G4 : Hid (t.size ≤ c4) := hgc4
  clear hk4 hb4 X3 A1 hgc4
  go_wp2_with fail
  refine (OY.out _ _ _ _ _ G4.out X4.out K4.out).mono ?_
  rintro e v5 ⟨⟨a5, n5, c5, rfl, hn5, hcv5⟩, hb⟩
  have B5 : Hid (Below w.heap.size w v5) := B4.out.trans (hb.mono B4.out.size)
  have CV5 : Hid (∀ u, Below v5.heap.size v5 u → (convert 22 9 (.slice a5 n5 c5)).run Tryz.prog u = .ok (.string TT) u) := hcv5
  have HN5 : Hid (n5 = TT.size) := hn5
  clear hb hcv hcv1 hcv5 X4 K4 B4 OY G4 hn5
  cases ok with
  | false =>
    obtain rfl : r = false := by
      rcases HCS.out with ⟨q, _⟩ | ⟨_, q⟩
      · cases q
      · exact q
    clear HCS
    go_wp2_with fail
    have H : Below v5.heap.size v5 v5.drew := (Below.refl _ _).drew
    refine wp_region_noPanic ?_
    refine wp_region_held_drew (S := fun w' => Below v5.heap.size v5 w') (by kernel_rfl) H (fun _ => ?_)
    generalize v5.drew = x0 at *
    refine wpAnyH_take (i := 0) (v := .slice a5 n5 c5) rfl (by kernel_rfl) (by kernel_rfl) (by kernel_rfl) (fun _ _ _ h => h) (Or.inl ⟨by rfl, ?_⟩) H ?_
    · intro w' hSw; clear hSw; go_simp
    change wpAnyH _ _ _ _ _ _ _ { tmps := #[_,_,_,_,_,_,_,_,_,_,_,_,_,_,_,_,_,_,_,_,_,_,_,_,_,_,_,_,_,_,_,_,_], defers := _ } _
    refine wpAnyH_take (i := 1) (v := .string TT) rfl (by kernel_rfl) (by kernel_rfl) (by kernel_rfl) (fun _ _ _ h => h) (Or.inl ⟨by rfl, ?_⟩) H ?_
    · intro w' hSw; have q0 := CV5.out _ hSw; clear hSw; go_simp
    change wpAnyH _ _ _ _ _ _ _ { tmps := #[_,_,_,_,_,_,_,_,_,_,_,_,_,_,_,_,_,_,_,_,_,_,_,_,_,_,_,_,_,_,_,_,_], defers := _ } _
    refine wpAnyH_take (i := 2) (v := .bool false) rfl (by kernel_rfl) (by kernel_rfl) (by kernel_rfl) (fun _ _ _ h => h) (Or.inl ⟨by rfl, ?_⟩) H ?_
    · intro w' hSw; clear hSw; go_simp
    change wpAnyH _ _ _ _ _ _ _ { tmps := #[_,_,_,_,_,_,_,_,_,_,_,_,_,_,_,_,_,_,_,_,_,_,_,_,_,_,_,_,_,_,_,_,_], defers := _ } _
    refine wpAnyH_take (i := 3) (v := .bool false) rfl (by kernel_rfl) (by kernel_rfl) (by kernel_rfl) (fun _ _ _ h => h) (Or.inl ⟨by rfl, ?_⟩) H ?_
    · intro w' hSw; clear hSw; go_simp
    change wpAnyH _ _ _ _ _ _ _ { tmps := #[_,_,_,_,_,_,_,_,_,_,_,_,_,_,_,_,_,_,_,_,_,_,_,_,_,_,_,_,_,_,_,_,_], defers := _ } _
    refine wpAnyH_take (i := 4) (v := undef) rfl (by kernel_rfl) (by kernel_rfl) (by kernel_rfl) (fun _ _ _ h => h) (Or.inr ⟨by rfl, rfl⟩) H ?_
    change wpAnyH _ _ _ _ _ _ _ { tmps := #[_,_,_,_,_,_,_,_,_,_,_,_,_,_,_,_,_,_,_,_,_,_,_,_,_,_,_,_,_,_,_,_,_], defers := _ } _
    refine wpAnyH_take (i := 5) (v := undef) rfl (by kernel_rfl) (by kernel_rfl) (by kernel_rfl) (fun _ _ _ h => h) (Or.inr ⟨by rfl, rfl⟩) H ?_
    change wpAnyH _ _ _ _ _ _ _ { tmps := #[_,_,_,_,_,_,_,_,_,_,_,_,_,_,_,_,_,_,_,_,_,_,_,_,_,_,_,_,_,_,_,_,_], defers := _ } _
    refine wpAnyH_take (i := 6) (v := undef) rfl (by kernel_rfl) (by kernel_rfl) (by kernel_rfl) (fun _ _ _ h => h) (Or.inr ⟨by rfl, rfl⟩) H ?_
    change wpAnyH _ _ _ _ _ _ _ { tmps := #[_,_,_,_,_,_,_,_,_,_,_,_,_,_,_,_,_,_,_,_,_,_,_,_,_,_,_,_,_,_,_,_,_], defers := _ } _
    refine wpAnyH_take (i := 7) (v := .bool false) rfl (by kernel_rfl) (by kernel_rfl) (by kernel_rfl) (fun _ _ _ h => h) (Or.inl ⟨by rfl, ?_⟩) H ?_
    · intro w' hSw; clear hSw; go_simp
    change wpAnyH _ _ _ _ _ _ _ { tmps := #[_,_,_,_,_,_,_,_,_,_,_,_,_,_,_,_,_,_,_,_,_,_,_,_,_,_,_,_,_,_,_,_,_], defers := _ } _
    refine wpAnyH_take (i := 8) (v := .string TT) rfl (by kernel_rfl) (by kernel_rfl) (by kernel_rfl) (fun _ _ _ h => h) (Or.inl ⟨by rfl, ?_⟩) H ?_
    · intro w' hSw; clear hSw; go_simp
    change wpAnyH _ _ _ _ _ _ _ { tmps := #[_,_,_,_,_,_,_,_,_,_,_,_,_,_,_,_,_,_,_,_,_,_,_,_,_,_,_,_,_,_,_,_,_], defers := _ } _
    refine wpAnyH_take (i := 9) (v := .bool false) rfl (by kernel_rfl) (by kernel_rfl) (by kernel_rfl) (fun _ _ _ h => h) (Or.inl ⟨by rfl, ?_⟩) H ?_
    · intro w' hSw; clear hSw; go_simp
    change wpAnyH _ _ _ _ _ _ _ { tmps := #[_,_,_,_,_,_,_,_,_,_,_,_,_,_,_,_,_,_,_,_,_,_,_,_,_,_,_,_,_,_,_,_,_], defers := _ } _
    refine wpAnyH_done (by kernel_rfl) ?_ _
    refine NoPanic.normal ?_
    have B6 : Hid (Below w.heap.size w x0) := B5.out.trans (H.mono B5.out.size)
    clear H
    go_wp2
    exact bodyPost_ret (results_tmp2 Tryz.results40 _ _ _) rfl ⟨HRT.out, B6.out⟩
  | true =>
    by_cases hz : 1 ≤ TT.size ∧ TT.size ≤ 64
    · have IN : Hid (∀ w : World, Calls Tryz.prog 37 #[.int .i64 (n5 : Int), .int .i64 1, .int .i64 64] w fun e w' => e = .returned (.bool true) ∧ Below w.heap.size w w') := fun w => (in_any n5 1 64 true (by have := HN5.out; simp; omega) w).mono fun _ _ q => ⟨q.1, by rw [← q.2]; exact Below.refl _ _⟩
      obtain rfl : r = true := by
        rcases HCS.out with ⟨_, _, _, q⟩ | ⟨q, _⟩
        · exact q
        · exact absurd ⟨rfl, hz⟩ q
      clear HCS hz
      go_wp2_with fail
      have H : Below v5.heap.size v5 v5.drew := (Below.refl _ _).drew
      refine wp_region_noPanic ?_
      refine wp_region_held_drew (S := fun w' => Below v5.heap.size v5 w') (by kernel_rfl) H (fun _ => ?_)
      generalize v5.drew = x0 at *
      refine wpAnyH_take (i := 0) (v := .slice a5 n5 c5) rfl (by kernel_rfl) (by kernel_rfl) (by kernel_rfl) (fun _ _ _ h => h) (Or.inl ⟨by rfl, ?_⟩) H ?_
      · intro w' hSw; clear hSw; go_simp
      change wpAnyH _ _ _ _ _ _ _ { tmps := #[_,_,_,_,_,_,_,_,_,_,_,_,_,_,_,_,_,_,_,_,_,_,_,_,_,_,_,_,_,_,_,_,_], defers := _ } _
      refine wpAnyH_take (i := 1) (v := .string TT) rfl (by kernel_rfl) (by kernel_rfl) (by kernel_rfl) (fun _ _ _ h => h) (Or.inl ⟨by rfl, ?_⟩) H ?_
      · intro w' hSw; have q0 := CV5.out _ hSw; clear hSw; go_simp
      change wpAnyH _ _ _ _ _ _ _ { tmps := #[_,_,_,_,_,_,_,_,_,_,_,_,_,_,_,_,_,_,_,_,_,_,_,_,_,_,_,_,_,_,_,_,_], defers := _ } _
      refine wpAnyH_take (i := 2) (v := .bool true) rfl (by kernel_rfl) (by kernel_rfl) (by kernel_rfl) (fun _ _ _ h => h) (Or.inl ⟨by rfl, ?_⟩) H ?_
      · intro w' hSw; clear hSw; go_simp
      change wpAnyH _ _ _ _ _ _ _ { tmps := #[_,_,_,_,_,_,_,_,_,_,_,_,_,_,_,_,_,_,_,_,_,_,_,_,_,_,_,_,_,_,_,_,_], defers := _ } _
      refine wpAnyH_take (i := 3) (v := .bool true) rfl (by kernel_rfl) (by kernel_rfl) (by kernel_rfl) (fun _ _ _ h => h) (Or.inl ⟨by rfl, ?_⟩) H ?_
      · intro w' hSw; clear hSw; go_simp
      change wpAnyH _ _ _ _ _ _ _ { tmps := #[_,_,_,_,_,_,_,_,_,_,_,_,_,_,_,_,_,_,_,_,_,_,_,_,_,_,_,_,_,_,_,_,_], defers := _ } _
      refine wpAnyH_take (i := 4) (v := .slice a5 n5 c5) rfl (by kernel_rfl) (by kernel_rfl) (by kernel_rfl) (fun _ _ _ h => h) (Or.inl ⟨by rfl, ?_⟩) H ?_
      · intro w' hSw; clear hSw; go_simp
      change wpAnyH _ _ _ _ _ _ _ { tmps := #[_,_,_,_,_,_,_,_,_,_,_,_,_,_,_,_,_,_,_,_,_,_,_,_,_,_,_,_,_,_,_,_,_], defers := _ } _
      refine wpAnyH_take (i := 5) (v := .int .i64 (n5 : Int)) rfl (by kernel_rfl) (by kernel_rfl) (by kernel_rfl) (fun _ _ _ h => h) (Or.inl ⟨by rfl, ?_⟩) H ?_
      · intro w' hSw; clear hSw; go_simp
      change wpAnyH _ _ _ _ _ _ _ { tmps := #[_,_,_,_,_,_,_,_,_,_,_,_,_,_,_,_,_,_,_,_,_,_,_,_,_,_,_,_,_,_,_,_,_], defers := _ } _
      refine wpAnyH_ready (rs := [6]) (by kernel_rfl) (by simp) ?_
      refine AllReadyH.cons rfl (fun KK hK => ?_) AllReadyH.nil
      go_simp
      refine (IN.out _).mono ?_
      rintro e x1 ⟨rfl, hb⟩
      replace H : Below v5.heap.size v5 x1 := H.trans (hb.mono H.size)
      clear hb
      refine hK.out _ _ H (fun _ => ?_)
      clear hK KK
      change wpAnyH _ _ _ _ _ _ _ { tmps := #[_,_,_,_,_,_,_,_,_,_,_,_,_,_,_,_,_,_,_,_,_,_,_,_,_,_,_,_,_,_,_,_,_], defers := _ } _
      refine wpAnyH_take (i := 7) (v := .bool true) rfl (by kernel_rfl) (by kernel_rfl) (by kernel_rfl) (fun _ _ _ h => h) (Or.inl ⟨by rfl, ?_⟩) H ?_
      · intro w' hSw; clear hSw; go_simp
      change wpAnyH _ _ _ _ _ _ _ { tmps := #[_,_,_,_,_,_,_,_,_,_,_,_,_,_,_,_,_,_,_,_,_,_,_,_,_,_,_,_,_,_,_,_,_], defers := _ } _
      refine wpAnyH_take (i := 8) (v := .string TT) rfl (by kernel_rfl) (by kernel_rfl) (by kernel_rfl) (fun _ _ _ h => h) (Or.inl ⟨by rfl, ?_⟩) H ?_
      · intro w' hSw; clear hSw; go_simp
      change wpAnyH _ _ _ _ _ _ _ { tmps := #[_,_,_,_,_,_,_,_,_,_,_,_,_,_,_,_,_,_,_,_,_,_,_,_,_,_,_,_,_,_,_,_,_], defers := _ } _
      refine wpAnyH_take (i := 9) (v := .bool true) rfl (by kernel_rfl) (by kernel_rfl) (by kernel_rfl) (fun _ _ _ h => h) (Or.inl ⟨by rfl, ?_⟩) H ?_
      · intro w' hSw; clear hSw; go_simp
      change wpAnyH _ _ _ _ _ _ _ { tmps := #[_,_,_,_,_,_,_,_,_,_,_,_,_,_,_,_,_,_,_,_,_,_,_,_,_,_,_,_,_,_,_,_,_], defers := _ } _
      refine wpAnyH_done (by kernel_rfl) ?_ _
      refine NoPanic.normal ?_
      have B6 : Hid (Below w.heap.size w x1) := B5.out.trans (H.mono B5.out.size)
      clear H
      go_wp2
      exact bodyPost_ret (results_tmp2 Tryz.results40 _ _ _) rfl ⟨HRT.out, B6.out⟩
    · have IN : Hid (∀ w : World, Calls Tryz.prog 37 #[.int .i64 (n5 : Int), .int .i64 1, .int .i64 64] w fun e w' => e = .returned (.bool false) ∧ Below w.heap.size w w') := fun w => (in_any n5 1 64 false (by have := HN5.out; simp; omega) w).mono fun _ _ q => ⟨q.1, by rw [← q.2]; exact Below.refl _ _⟩
      obtain rfl : r = false := by
        rcases HCS.out with ⟨_, q, _⟩ | ⟨_, q⟩
        · exact absurd q hz
        · exact q
      clear HCS hz
      go_wp2_with fail
      have H : Below v5.heap.size v5 v5.drew := (Below.refl _ _).drew
      refine wp_region_noPanic ?_
      refine wp_region_held_drew (S := fun w' => Below v5.heap.size v5 w') (by kernel_rfl) H (fun _ => ?_)
      generalize v5.drew = x0 at *
      refine wpAnyH_take (i := 0) (v := .slice a5 n5 c5) rfl (by kernel_rfl) (by kernel_rfl) (by kernel_rfl) (fun _ _ _ h => h) (Or.inl ⟨by rfl, ?_⟩) H ?_
      · intro w' hSw; clear hSw; go_simp
      change wpAnyH _ _ _ _ _ _ _ { tmps := #[_,_,_,_,_,_,_,_,_,_,_,_,_,_,_,_,_,_,_,_,_,_,_,_,_,_,_,_,_,_,_,_,_], defers := _ } _
      refine wpAnyH_take (i := 1) (v := .string TT) rfl (by kernel_rfl) (by kernel_rfl) (by kernel_rfl) (fun _ _ _ h => h) (Or.inl ⟨by rfl, ?_⟩) H ?_
      · intro w' hSw; have q0 := CV5.out _ hSw; clear hSw; go_simp
      change wpAnyH _ _ _ _ _ _ _ { tmps := #[_,_,_,_,_,_,_,_,_,_,_,_,_,_,_,_,_,_,_,_,_,_,_,_,_,_,_,_,_,_,_,_,_], defers := _ } _
      refine wpAnyH_take (i := 2) (v := .bool true) rfl (by kernel_rfl) (by kernel_rfl) (by kernel_rfl) (fun _ _ _ h => h) (Or.inl ⟨by rfl, ?_⟩) H ?_
      · intro w' hSw; clear hSw; go_simp
      change wpAnyH _ _ _ _ _ _ _ { tmps := #[_,_,_,_,_,_,_,_,_,_,_,_,_,_,_,_,_,_,_,_,_,_,_,_,_,_,_,_,_,_,_,_,_], defers := _ } _
      refine wpAnyH_take (i := 3) (v := .bool true) rfl (by kernel_rfl) (by kernel_rfl) (by kernel_rfl) (fun _ _ _ h => h) (Or.inl ⟨by rfl, ?_⟩) H ?_
      · intro w' hSw; clear hSw; go_simp
      change wpAnyH _ _ _ _ _ _ _ { tmps := #[_,_,_,_,_,_,_,_,_,_,_,_,_,_,_,_,_,_,_,_,_,_,_,_,_,_,_,_,_,_,_,_,_], defers := _ } _
      refine wpAnyH_take (i := 4) (v := .slice a5 n5 c5) rfl (by kernel_rfl) (by kernel_rfl) (by kernel_rfl) (fun _ _ _ h => h) (Or.inl ⟨by rfl, ?_⟩) H ?_
      · intro w' hSw; clear hSw; go_simp
      change wpAnyH _ _ _ _ _ _ _ { tmps := #[_,_,_,_,_,_,_,_,_,_,_,_,_,_,_,_,_,_,_,_,_,_,_,_,_,_,_,_,_,_,_,_,_], defers := _ } _
      refine wpAnyH_take (i := 5) (v := .int .i64 (n5 : Int)) rfl (by kernel_rfl) (by kernel_rfl) (by kernel_rfl) (fun _ _ _ h => h) (Or.inl ⟨by rfl, ?_⟩) H ?_
      · intro w' hSw; clear hSw; go_simp
      change wpAnyH _ _ _ _ _ _ _ { tmps := #[_,_,_,_,_,_,_,_,_,_,_,_,_,_,_,_,_,_,_,_,_,_,_,_,_,_,_,_,_,_,_,_,_], defers := _ } _
      refine wpAnyH_ready (rs := [6]) (by kernel_rfl) (by simp) ?_
      refine AllReadyH.cons rfl (fun KK hK => ?_) AllReadyH.nil
      go_simp
      refine (IN.out _).mono ?_
      rintro e x1 ⟨rfl, hb⟩
      replace H : Below v5.heap.size v5 x1 := H.trans (hb.mono H.size)
      clear hb
      refine hK.out _ _ H (fun _ => ?_)
      clear hK KK
      change wpAnyH _ _ _ _ _ _ _ { tmps := #[_,_,_,_,_,_,_,_,_,_,_,_,_,_,_,_,_,_,_,_,_,_,_,_,_,_,_,_,_,_,_,_,_], defers := _ } _
      refine wpAnyH_take (i := 7) (v := .bool false) rfl (by kernel_rfl) (by kernel_rfl) (by kernel_rfl) (fun _ _ _ h => h) (Or.inl ⟨by rfl, ?_⟩) H ?_
      · intro w' hSw; clear hSw; go_simp
      change wpAnyH _ _ _ _ _ _ _ { tmps := #[_,_,_,_,_,_,_,_,_,_,_,_,_,_,_,_,_,_,_,_,_,_,_,_,_,_,_,_,_,_,_,_,_], defers := _ } _
      refine wpAnyH_take (i := 8) (v := .string TT) rfl (by kernel_rfl) (by kernel_rfl) (by kernel_rfl) (fun _ _ _ h => h) (Or.inl ⟨by rfl, ?_⟩) H ?_
      · intro w' hSw; clear hSw; go_simp
      change wpAnyH _ _ _ _ _ _ _ { tmps := #[_,_,_,_,_,_,_,_,_,_,_,_,_,_,_,_,_,_,_,_,_,_,_,_,_,_,_,_,_,_,_,_,_], defers := _ } _
      refine wpAnyH_take (i := 9) (v := .bool false) rfl (by kernel_rfl) (by kernel_rfl) (by kernel_rfl) (fun _ _ _ h => h) (Or.inl ⟨by rfl, ?_⟩) H ?_
      · intro w' hSw; clear hSw; go_simp
      change wpAnyH _ _ _ _ _ _ _ { tmps := #[_,_,_,_,_,_,_,_,_,_,_,_,_,_,_,_,_,_,_,_,_,_,_,_,_,_,_,_,_,_,_,_,_], defers := _ } _
      refine wpAnyH_done (by kernel_rfl) ?_ _
      refine NoPanic.normal ?_
      have B6 : Hid (Below w.heap.size w x1) := B5.out.trans (H.mono B5.out.size)
      clear H
      go_wp2
      exact bodyPost_ret (results_tmp2 Tryz.results40 _ _ _) rfl ⟨HRT.out, B6.out⟩
set_option maxRecDepth 100000 in
set_option maxHeartbeats 4000000 in
theorem specOpenP_any (k : ByteArray) (p v : Int) (t T : ByteArray) (c : Int) (hA : OpIs k p v t T c) (w : World) :
    Calls Tryz.prog 17 #[.string k, .int .i64 p, .int .i64 v, .string t] w fun e w' => e = .returned (.tuple #[.string T, .int .i64 c]) ∧ Below w.heap.size w w' := by
  by_cases hkz : 65536 < k.size
  · obtain ⟨rfl, rfl⟩ : c = 2 ∧ T = ⟨#[]⟩ := by
      rcases hA with ⟨h, hc, rfl⟩ | ⟨h, _⟩ | ⟨h, _⟩
      · rcases h with ⟨rfl, _⟩ | ⟨_, h1, _⟩ | ⟨_, _, h3, _⟩ | ⟨_, _, h3, _⟩
        · exact ⟨rfl, rfl⟩
        · exact absurd hkz h1
        · omega
        · omega
      · have := h.zero.2.1; omega
      · have := h.zero.2.1; omega
    have k0 : (65536 : Int) < (k.size : Int) := by omega
    clear hA
    go_enter Tryz.func17, Tryz.ntmps17
    go_wp2
    exact bodyPost_ret (results_tmp2 Tryz.results17 _ _ _) rfl ⟨rfl, Below.refl _ _⟩
  · have k0 : ¬ (65536 : Int) < (k.size : Int) := by omega
    by_cases htz : 65536 < t.size
    · obtain ⟨rfl, rfl⟩ : c = 2 ∧ T = ⟨#[]⟩ := by
        rcases hA with ⟨h, hc, rfl⟩ | ⟨h, _⟩ | ⟨h, _⟩
        · rcases h with ⟨rfl, _⟩ | ⟨_, _, h1, _⟩ | ⟨_, h1, _⟩ | ⟨_, h1, _⟩
          · exact ⟨rfl, rfl⟩
          · exact absurd htz h1
          · exact absurd htz h1
          · exact absurd htz h1
        · exact absurd htz h.zero.1
        · exact absurd htz h.zero.1
      have t0 : (65536 : Int) < (t.size : Int) := by omega
      clear hA
      go_enter Tryz.func17, Tryz.ntmps17
      go_wp2
      exact bodyPost_ret (results_tmp2 Tryz.results17 _ _ _) rfl ⟨rfl, Below.refl _ _⟩
    · have t0 : ¬ (65536 : Int) < (t.size : Int) := by omega
      by_cases hc : PfP k p v t 0
      · have PF : Hid (∀ w : World, Calls Tryz.prog 36 #[.string k, .int .i64 p, .int .i64 v] w fun e w' => e = .returned (.int .i64 0) ∧ w = w') := l12Ask_any k p v t 0 hc hkz htz
        obtain ⟨_, hk, hp, hv⟩ := hc.zero
        obtain ⟨P, rfl⟩ := Int.eq_ofNat_of_zero_le hp.1
        obtain ⟨V, rfl⟩ := Int.eq_ofNat_of_zero_le (show 0 ≤ v by omega)
        obtain ⟨r, hr, hrc⟩ : ∃ r : Bool, ((r = true ∧ OpnIs k P V t T) ∨ (r = false ∧ ∀ T, ¬ OpnIs k P V t T)) ∧ ((r = true ∧ c = 0) ∨ (r = false ∧ c = 10 ∧ T = ⟨#[]⟩)) := by
          rcases hA with ⟨h, hc2, rfl⟩ | ⟨h, h1, h2⟩ | ⟨h, h1, h2⟩
          · have : c = 0 := by
              rcases h with ⟨rfl, h⟩ | ⟨rfl, _, _, h⟩ | ⟨rfl, _, _, h⟩ | ⟨rfl, _⟩
              · rcases h with h | h
                · exact absurd h hkz
                · exact absurd h htz
              · exact absurd hk h
              · exact absurd ⟨hp, hv⟩ h
              · rfl
            exact absurd this hc2
          · exact ⟨false, .inr ⟨rfl, h1⟩, .inr ⟨rfl, h2⟩⟩
          · exact ⟨true, .inl ⟨rfl, h1⟩, .inl ⟨rfl, h2⟩⟩
        have LO : Hid (∀ w : World, Calls Tryz.prog 40 #[.string k, .int .i64 (P : Int), .int .i64 (V : Int), .string t] w fun e w' => OpX e r T ∧ Below w.heap.size w w') := fun w => l12Open_any k P V t hk (by omega) (by omega) htz T r hr w
        clear hA hr hc hk hp hv hkz htz
        go_enter Tryz.func17, Tryz.ntmps17
        go_wp2_with fail
        refine (PF.out _).mono ?_
        rintro e _ ⟨rfl, rfl⟩
        go_wp2_with fail
        refine (LO.out _).mono ?_
        rintro e v2 ⟨⟨X, rfl, hX⟩, hb⟩
        have B2 : Hid (Below w.heap.size w v2) := hb
        clear hb LO PF
        rcases hrc with ⟨rfl, rfl⟩ | ⟨rfl, rfl, rfl⟩
        · obtain rfl := hX rfl
          go_wp2
          exact bodyPost_ret (results_tmp2 Tryz.results17 _ _ _) rfl ⟨rfl, B2.out⟩
        · clear hX
          go_wp2
          exact bodyPost_ret (results_tmp2 Tryz.results17 _ _ _) rfl ⟨rfl, B2.out⟩
      · obtain ⟨h, hc2, rfl⟩ : PfP k p v t c ∧ c ≠ 0 ∧ T = ⟨#[]⟩ := by
          rcases hA with h | ⟨h, _⟩ | ⟨h, _⟩
          · exact h
          · exact absurd h hc
          · exact absurd h hc
        have PF : Hid (∀ w : World, Calls Tryz.prog 36 #[.string k, .int .i64 p, .int .i64 v] w fun e w' => e = .returned (.int .i64 c) ∧ w = w') := l12Ask_any k p v t c h hkz htz
        have e1 : (c != 0) = true := by simp [hc2]
        clear h hc hc2 hkz htz hA
        go_enter Tryz.func17, Tryz.ntmps17
        go_wp2_with fail
        refine (PF.out _).mono ?_
        rintro e _ ⟨rfl, rfl⟩
        go_wp2
        exact bodyPost_ret (results_tmp2 Tryz.results17 _ _ _) rfl ⟨rfl, Below.refl _ _⟩
end Go.Proofs.YtkmakpbphdjbcaaGreatDoor
namespace Go.Proofs.YtkmakpbphdjbcaaGreatDoor
open Go.ChangeShapes Go.WideShapes Go.ChangeAt Go.RowKit
set_option linter.unusedVariables false
theorem catS_congr {n m : Nat} {f g h : Nat → Nat} (e : ∀ j, j < m → g j = h j) : ∀ j, j < n + m → Sha.cat n f g j = Sha.cat n f h j := fun j hj => by
  unfold Sha.cat
  by_cases q : j < n
  · rw [if_pos q, if_pos q]
  · rw [if_neg q, if_neg q]; exact e _ (by omega)
theorem fullF_congr {n : Nat} {f g : Nat → Nat} (e : ∀ j, j < n → f j = g j) : Sha.fullF n f = Sha.fullF n g := by
  funext j
  unfold Sha.fullF
  by_cases h : j < n
  · rw [if_pos h, if_pos h, e j h]
  · rw [if_neg h, if_neg h]
theorem mac_congrS (k : Nat → Nat) {n : Nat} {f g : Nat → Nat} (e : ∀ j, j < n → f j = g j) : Sha.mac k n f = Sha.mac k n g := by
  unfold Sha.mac Sha.hash
  rw [fullF_congr (n := 64 + n) (catS_congr e)]
theorem tagT_congr (k s : ByteArray) (m : Nat) (fx : Nat → Nat) (n : Nat) {f g : Nat → Nat} (e : ∀ j, j < n → f j = g j) : tagT k s m fx n f = tagT k s m fx n g := by
  unfold tagT macT
  rw [mac_congrS _ (n := 16 + m + n) (show ∀ j, j < 16 + m + n → Sha.cat 16 (numF 12 4 m (strB s)) (Sha.cat m fx f) j = Sha.cat 16 (numF 12 4 m (strB s)) (Sha.cat m fx g) j from fun j hj => catS_congr (m := m + n) (catS_congr e) j (by omega))]
theorem okT_sealed (k s : ByteArray) (m : Nat) (fx : Nat → Nat) (n : Nat) {f : Nat → Nat} (hf : ∀ i, f i < 256) : okT k s m fx n (sealedF k s m fx n f) = true := by
  have hl : ∀ i, sealedF k s m fx n f i < 256 := Sha.cat_lt (streamF_lt k s hf) (strB_lt _)
  rw [okT_iff _ _ _ _ _ _ hl, tagT_congr k s m fx n (f := sealedF k s m fx n f) (g := streamF k s f) (fun j hj => by unfold sealedF Sha.cat; rw [if_pos hj])]
  have h0 := kstr_self (tagT k s m fx n (streamF k s f))
  rw [tagT_size] at h0
  conv => lhs; rw [← h0]
  exact kstr_congr (fun i hi => by
    unfold sealedF Sha.cat
    rw [Nat.zero_add, if_neg (by omega), show n + i - n = i from by omega])
theorem stream_sealed (k s : ByteArray) (m : Nat) (fx : Nat → Nat) (n : Nat) (f : Nat → Nat) (i : Nat) (hi : i < n) : streamF k s (sealedF k s m fx n f) i = f i := by
  have : streamF k s (sealedF k s m fx n f) i = streamF k s (streamF k s f) i := by
    unfold streamF ctrF
    unfold sealedF Sha.cat
    rw [if_pos hi]
    rfl
  rw [this]
  exact ctrF_twice _ _ _ _ _
theorem nthI_memS (L : List Nat) (i : Nat) : (∃ j, j < L.length ∧ nthI L j = (i : Int)) ↔ i ∈ L := by
  unfold nthI
  constructor
  · rintro ⟨j, hj, e⟩
    rw [List.getD_eq_getElem?_getD, List.getElem?_eq_getElem hj] at e
    have e2 : ((L[j] : Nat) : Int) = (i : Int) := e
    have : L[j] = i := by omega
    rw [← this]
    exact List.getElem_mem hj
  · intro h
    obtain ⟨j, hj, e⟩ := List.getElem_of_mem h
    exact ⟨j, hj, by rw [List.getD_eq_getElem?_getD, List.getElem?_eq_getElem hj, e]; rfl⟩
theorem numL_ltF (k x : Nat) : ∀ y ∈ numL k x, y < 256 := fun y hy => by
  unfold numL numP at hy
  obtain ⟨j, _, rfl⟩ := List.mem_map.1 hy
  exact Nat.mod_lt _ (by omega)
theorem strL_ltF (r : ByteArray) : ∀ y ∈ strL r, y < 256 := fun y hy => by
  unfold strL at hy
  obtain ⟨j, _, rfl⟩ := List.mem_map.1 hy
  exact j.toNat_lt
theorem supF_lt {z : Int} {n : Nat} {P : Nat → Plc} {r : ByteArray} (h : SupOk z n P r) (i : Nat) : supF z n P r i < 256 := by
  have fl : ∀ k, k ≤ n → ∀ x ∈ flatP P k, x < 256 := fun k => by
    induction k with
    | zero => intro _ x hx; simp [flatP] at hx
    | succ k ih =>
      intro hk x hx
      rw [flatP] at hx
      rcases List.mem_append.1 hx with q | q
      · exact ih (by omega) x q
      · unfold plL at q
        rcases List.mem_append.1 q with q | q
        · have h1 := (h.2 k (by omega)).1.1
          rw [List.mem_singleton.1 q]
          omega
        · exact numL_ltF _ _ _ q
  have al : ∀ x ∈ supL z n P r, x < 256 := fun x hx => by
    unfold supL at hx
    rcases List.mem_append.1 hx with q | q
    · rcases List.mem_append.1 q with q | q
      · exact numL_ltF _ _ _ q
      · exact fl n (Nat.le_refl _) x q
    · exact strL_ltF _ _ q
  unfold supF
  rw [List.getD_eq_getElem?_getD]
  cases e : (supL z n P r)[i]? with
  | none => simp
  | some x => exact al x (List.mem_of_getElem? e)
theorem OL.lenLe {w : World} {B : Nat} {a : Option Addr} {n c : Nat} {L : List Nat} (h : OL w B (.slice a n c) L) : n ≤ c := by
  obtain ⟨hl, ⟨h1, h2⟩ | ⟨g, cap, cur, hv, _, _, hn, hm, _⟩⟩ := h
  · cases h1; omega
  · cases hv; exact hn
theorem isRow_belowS {w w' : World} {a : Option Addr} {len cap : Nat} {zs : List Int} (h : IsRow .u8 w a len cap zs) (hb : Below w.heap.size w w') : IsRow .u8 w' a len cap zs := by
  rcases h with h | ⟨x, rfl, hl, hm, hz, hcell, hwz⟩
  · exact .inl h
  · exact .inr ⟨x, rfl, hl, hm, hz, fun i hi => by
      have := hcell i hi
      rw [hb.cell (strBlock this)]; exact this, hwz⟩
theorem opn_seal (k : ByteArray) (P V : Nat) (s : ByteArray) (hs : 1 ≤ s.size ∧ s.size ≤ 64) : OpnIs k P V (pcSeal k P V s) s := by
  have hl : ∀ i, sealedF k (pcNon P V) 5 pieceX s.size (strB s) i < 256 := Sha.cat_lt (streamF_lt k _ (strB_lt s)) (strB_lt _)
  have e : ∀ i, i < s.size + 16 → strB (pcSeal k P V s) i = sealedF k (pcNon P V) 5 pieceX s.size (strB s) i := fun i hi => by
    unfold pcSeal
    rw [strB_kstr _ 0 _ i (by rw [Nat.zero_add]; exact hl _) hi, Nat.zero_add]
  refine ⟨s.size, by unfold pcSeal; rw [kstr_size], ?_, hs, ?_⟩
  · unfold pcOk
    have h1 := okT_sealed k (pcNon P V) 5 pieceX s.size (strB_lt s)
    rw [okT_iff _ _ _ _ _ _ hl] at h1
    rw [okT_iff _ _ _ _ _ _ (strB_lt _), tagT_congr k (pcNon P V) 5 pieceX s.size (f := strB (pcSeal k P V s)) (g := sealedF k (pcNon P V) 5 pieceX s.size (strB s)) (fun j hj => e j (by omega)), h1]
    exact kstr_congr (fun i hi => (e _ (by omega)).symm)
  · unfold pcOpn
    conv => lhs; rw [← kstr_self s]
    refine kstr_congr (fun i hi => ?_)
    rw [Nat.zero_add]
    have h2 := stream_sealed k (pcNon P V) 5 pieceX s.size (strB s) i hi
    have h3 : streamF k (pcNon P V) (strB (pcSeal k P V s)) i = streamF k (pcNon P V) (sealedF k (pcNon P V) 5 pieceX s.size (strB s)) i := by
      unfold streamF ctrF
      rw [e i (by omega)]
    rw [h3, h2]
set_option maxRecDepth 100000 in
set_option maxHeartbeats 8000000 in
theorem law_fnSupers (a0 a1 : Option Addr) (l0 c0 l1 c1 : Nat) (zs0 zs1 : List Int) (w : World) (r0 : IsRow .u8 w a0 l0 c0 zs0) (r1 : IsRow .u8 w a1 l1 c1 zs1) (ht : Tabs w) :
    Calls Tryz.prog 3 #[.slice a0 l0 c0, .slice a1 l1 c1] w fun e w' => e = .returned (.bool true) ∧ Below w.heap.size w w' := by
  by_cases b0 : 1048576 < l0
  · have bb0 : (1048576 : Int) < (l0 : Int) := by omega
    clear r0 r1 ht
    go_enter Tryz.func3, Tryz.ntmps3
    go_wp2
    go_ret
    exact ⟨rfl, Below.refl _ _⟩
  have bb0 : ¬ (1048576 : Int) < (l0 : Int) := by omega
  by_cases b1 : 1048576 < l1
  · have bb1 : (1048576 : Int) < (l1 : Int) := by omega
    clear r0 r1 ht
    go_enter Tryz.func3, Tryz.ntmps3
    go_wp2
    go_ret
    exact ⟨rfl, Below.refl _ _⟩
  have bb1 : ¬ (1048576 : Int) < (l1 : Int) := by omega
  obtain ⟨z0, hz0, hv0⟩ := code8_of_row r0
  obtain ⟨z1, hz1, hv1⟩ := code8_of_row r1
  have m0 := r0.lenLe
  have m1 := r1.lenLe
  have SF : Hid (Calls Tryz.prog 4 #[.slice a0 l0 c0] w fun e w' => RetSuOk w.heap.size w' e ∧ Below w.heap.size w w') := superOf_t a0 l0 c0 z0 hz0 m0 w hv0
  have DT : Hid (∀ w : World, Code8 w a1 l1 z1 → Calls Tryz.prog 12 #[.slice a1 l1 c1] w fun e w' => (∃ s : ByteArray, s.size ≤ 16 ∧ e = .returned (.string s)) ∧ Below w.heap.size w w') := fun w h => datumOf_t a1 l1 c1 z1 hz1 m1 w h
  have AT0 : Hid (∀ w : World, IsRow .u8 w a1 l1 c1 zs1 → Calls Tryz.prog 11 #[.slice a1 l1 c1, .int .i64 0, .int .i64 16] w fun e w' => AtT 16 e ∧ Below w.heap.size w w') := fun w h => at_t a1 l1 c1 zs1 w h 0 16 (by omega) (by omega) (by omega)
  have AT1 : Hid (∀ w : World, IsRow .u8 w a1 l1 c1 zs1 → Calls Tryz.prog 11 #[.slice a1 l1 c1, .int .i64 1, .int .i64 1000] w fun e w' => AtT 1000 e ∧ Below w.heap.size w w') := fun w h => at_t a1 l1 c1 zs1 w h 1 1000 (by omega) (by omega) (by omega)
  have A1 : Hid (Below w.heap.size w w) := Below.refl _ _
  have R1 : Hid (IsRow .u8 w a1 l1 c1 zs1) := r1
  have H1 : Hid (Code8 w a1 l1 z1) := hv1
  have HT : Hid (Tabs w) := ht
  clear r0 r1 ht hv0 hv1 hz0 hz1 m0 m1 b0 b1
  go_enter Tryz.func3, Tryz.ntmps3
  go_wp2_with fail
  refine (SF.out).mono ?_
  rintro e v1 ⟨⟨z, n, P, r, pa, pc, hok, rfl, ho⟩, hb⟩
  replace A1 : Hid (Below w.heap.size w v1) := A1.out.trans (hb.mono A1.out.size)
  replace R1 : Hid (IsRow .u8 v1 a1 l1 c1 zs1) := isRow_belowS R1.out hb
  replace H1 : Hid (Code8 v1 a1 l1 z1) := H1.out.below hb
  replace HT : Hid (Tabs v1) := HT.out.below hb
  have RS : Hid (Els v1 2 pa n (pcF P)) := ho.els
  have SL : SlP pa n pc := ho.slp
  clear hb ho SF
  have n16 : n ≤ 16 := hok.n16
  have hn : n ≤ 1048576 := by omega
  have eN : (supL z n P r).length = 34 + 3 * n := by rw [supL_length, hok.1.2.2.2]; omega
  obtain ⟨N, hN⟩ : ∃ N, N = 34 + 3 * n := ⟨_, rfl⟩
  have IB : Hid (∀ u : World, Els u 2 pa n (pcF P) → Calls Tryz.prog 5 #[.agg #[.int .i64 z, .slice pa n pc, .string r]] u fun e w' => (∃ a' c', N ≤ c' ∧ e = .returned (.tuple #[.slice a' N c', .int .i64 0]) ∧ Code8 w' a' N (supF z n P r)) ∧ Below u.heap.size u w') := fun u h => (implSupBy_ok z pa n pc P r hok SL u h).mono fun e w' q => by
    obtain ⟨⟨a', c', he, ho⟩, hb⟩ := q
    obtain ⟨g, hr, _⟩ := ho.byR rfl
    have hle := ho.lenLe
    rw [eN, ← hN] at he hr hle
    exact ⟨⟨a', c', hle, he, hr.code⟩, hb⟩
  have SB : Hid (∀ u : World, Els u 2 pa n (pcF P) → Calls Tryz.prog 6 #[.agg #[.int .i64 z, .slice pa n pc, .string r]] u fun e w' => (∃ a' c', N ≤ c' ∧ e = .returned (.tuple #[.slice a' N c', .int .i64 0]) ∧ Code8 w' a' N (supF z n P r)) ∧ Below u.heap.size u w') := fun u h => (specSupBy_any z pa n pc P r hn _ 0 (.inr ⟨hok, rfl, rfl⟩) u h).mono fun e w' q => by
    obtain ⟨⟨a', c', he, ho⟩, hb⟩ := q
    obtain ⟨g, hr, _⟩ := ho.byR rfl
    have hle := ho.lenLe
    rw [eN, ← hN] at he hr hle
    exact ⟨⟨a', c', hle, he, hr.code⟩, hb⟩
  have zt : ((z.toNat : Nat) : Int) = z := by have := hok.1.1; omega
  have RD : Hid (∀ (a : Option Addr) (c : Nat) (u : World), N ≤ c → Code8 u a N (supF z n P r) → Calls Tryz.prog 7 #[.slice a N c] u fun e w' => (∃ a' c', e = .returned (.tuple #[.agg #[.int .i64 z, .slice a' n c', .string r], .int .i64 0]) ∧ Els w' 2 a' n (pcF P)) ∧ Below u.heap.size u w') := fun a c u hc h => (implReadSuper_is a N c (supF z n P r) (supF_lt hok) (by omega) hc u h).mono fun e w' q => by
    have hrd := supF_rd z n P r hok
    rw [eN, ← hN] at hrd
    rcases q with ⟨⟨_, a', c', he, ho⟩ | ⟨hno, _⟩, hb⟩
    · rw [supF_z z n P r hok, zt, ← hok.1.2.2.1, supF_r z n P r hok] at he
      rw [supF_z z n P r hok, ← hok.1.2.2.1] at ho
      exact ⟨⟨a', c', he, ho.els.congr (fun i hi j hj => by unfold pcF; rw [supF_p z n P r hok i hi])⟩, hb⟩
    · exact absurd hrd hno
  have OK : Hid (∀ u : World, Els u 2 pa n (pcF P) → Calls Tryz.prog 8 #[.agg #[.int .i64 z, .slice pa n pc, .string r]] u fun e w' => e = .returned (.bool true) ∧ Below u.heap.size u w') := fun u h => implSupOK_any z pa n pc P r SL hn u h true (gB_yes hok).symm
  obtain ⟨DL, hDL⟩ : ∃ l, l = dirL (FreeAt n P) 64 := ⟨_, rfl⟩
  have FB : Hid (∀ u : World, Els u 2 pa n (pcF P) → Calls Tryz.prog 9 #[.agg #[.int .i64 z, .slice pa n pc, .string r], .int .i64 64] u fun e w' => (∃ a' c', e = .returned (.tuple #[.slice a' DL.length c', .int .i64 0]) ∧ Num w' a' DL.length (nthI DL)) ∧ Below u.heap.size u w') := fun u h => (implFree_any z pa n pc P r 64 DL 0 (.inr (.inr ⟨hok, by omega, rfl, hDL⟩)) SL hn u h).mono fun e w' q => by
    obtain ⟨⟨a', c', he, ho⟩, hb⟩ := q
    exact ⟨⟨a', c', he, IE.num ho⟩, hb⟩
  have fs : DL.length + n = 62 := by rw [hDL]; exact supOk_free hok
  have HI : Hid (∀ (i : Nat) (a : Option Addr) (x : Nat) (u : World), i < n → Num u a DL.length (nthI DL) → Calls Tryz.prog 10 #[.slice a DL.length x, .int .i64 (P i).bk] u fun e w' => e = .returned (.bool false) ∧ Below u.heap.size u w') := fun i a x u hi h => by
    have hpo := (hok.2 i hi).1.1
    obtain ⟨q, hq⟩ := Int.eq_ofNat_of_zero_le (show 0 ≤ (P i).bk by omega)
    have hno := supOk_apart hok i hi q hq
    rw [← hDL] at hno
    refine (lawHas_any a DL.length x (nthI DL) (P i).bk false ?_ (by omega) u h).mono fun _ _ q => ⟨q.1, by rw [← q.2]; exact Below.refl _ _⟩
    rw [hq, nthI_memS]
    exact ⟨fun e => (by cases e), fun e => absurd e hno⟩
  have fsI : (DL.length : Int) + (n : Int) = 62 := by omega
  have CV : Hid (∀ (a : Option Addr) (x : Nat) (u : World), Code8 u a N (supF z n P r) → (convert 22 9 (.slice a N x)).run Tryz.prog u = .ok (.string (kstr (supF z n P r) 0 N)) u) := fun a x u h => by
    obtain ⟨b, o, rfl, _⟩ := h.opened (by omega)
    exact kstr_of_code h
  generalize hKT : kstr (supF z n P r) 0 N = KT at *
  generalize hSF : supF z n P r = SF at *
  generalize hLL : DL.length = LL at *
  generalize nthI DL = NI at *
  clear hKT hSF hLL hDL eN hN zt hok SL fs
  have zz : (z != z) = false := by simp
  have nn : ((n : Int) != (n : Int)) = false := by simp
  have nI : (n : Int) ≤ 16 := by omega
  have hb : Below v1.heap.size v1 (v1.alloc (.cells #[.int .i64 z, .slice pa n pc, .string r] 25)) := (Below.refl _ _).alloc (Nat.le_refl _) _
  have XS : Hid (Box3 (v1.alloc (.cells #[.int .i64 z, .slice pa n pc, .string r] 25)) v1.heap.size 25 (.int .i64 z) (.slice pa n pc) (.string r)) := Box3.made _ _ _ _ _
  have s0 := XS.out.c0
  have s1 := XS.out.c1
  have s2 := XS.out.c2
  go_wp2_with fail
  generalize (v1.alloc (.cells #[.int .i64 z, .slice pa n pc, .string r] 25)) = v2 at *
  replace A1 : Hid (Below w.heap.size w v2) := A1.out.trans (hb.mono A1.out.size)
  replace R1 : Hid (IsRow .u8 v2 a1 l1 c1 zs1) := isRow_belowS R1.out hb
  replace H1 : Hid (Code8 v2 a1 l1 z1) := H1.out.below hb
  replace HT : Hid (Tabs v2) := HT.out.below hb
  replace RS : Hid (Els v2 2 pa n (pcF P)) := RS.out.below hb
  clear hb s0 s1 s2
  obtain ⟨sb, hsb⟩ : ∃ bx, bx = v1.heap.size := ⟨_, rfl⟩
  rw [← hsb] at XS ⊢
  clear hsb
  refine (IB.out _ RS.out).mono ?_
  rintro e v3 ⟨⟨ab, cb, hcb, rfl, hx⟩, hb⟩
  replace A1 : Hid (Below w.heap.size w v3) := A1.out.trans (hb.mono A1.out.size)
  replace R1 : Hid (IsRow .u8 v3 a1 l1 c1 zs1) := isRow_belowS R1.out hb
  replace H1 : Hid (Code8 v3 a1 l1 z1) := H1.out.below hb
  replace HT : Hid (Tabs v3) := HT.out.below hb
  replace RS : Hid (Els v3 2 pa n (pcF P)) := RS.out.below hb
  replace XS : Hid (Box3 v3 sb 25 (.int .i64 z) (.slice pa n pc) (.string r)) := XS.out.below hb
  have LB : Hid (Code8 v3 ab N SF) := hx
  have CB : Hid (N ≤ cb) := hcb
  clear hb hx hcb IB
  have s0 := XS.out.c0
  have s1 := XS.out.c1
  have s2 := XS.out.c2
  go_wp2_with fail
  refine (SB.out _ RS.out).mono ?_
  rintro e v4 ⟨⟨aw, cw, hcw, rfl, hx⟩, hb⟩
  replace A1 : Hid (Below w.heap.size w v4) := A1.out.trans (hb.mono A1.out.size)
  replace R1 : Hid (IsRow .u8 v4 a1 l1 c1 zs1) := isRow_belowS R1.out hb
  replace H1 : Hid (Code8 v4 a1 l1 z1) := H1.out.below hb
  replace HT : Hid (Tabs v4) := HT.out.below hb
  replace RS : Hid (Els v4 2 pa n (pcF P)) := RS.out.below hb
  replace XS : Hid (Box3 v4 sb 25 (.int .i64 z) (.slice pa n pc) (.string r)) := XS.out.below hb
  replace LB : Hid (Code8 v4 ab N SF) := LB.out.below hb
  have LW : Hid (Code8 v4 aw N SF) := hx
  clear hb hx hcw SB s0 s1 s2
  go_wp2_with fail
  refine (RD.out _ _ _ CB.out LB.out).mono ?_
  rintro e v5 ⟨⟨ax, cx, rfl, hx⟩, hb⟩
  replace A1 : Hid (Below w.heap.size w v5) := A1.out.trans (hb.mono A1.out.size)
  replace R1 : Hid (IsRow .u8 v5 a1 l1 c1 zs1) := isRow_belowS R1.out hb
  replace H1 : Hid (Code8 v5 a1 l1 z1) := H1.out.below hb
  replace HT : Hid (Tabs v5) := HT.out.below hb
  replace RS : Hid (Els v5 2 pa n (pcF P)) := RS.out.below hb
  replace XS : Hid (Box3 v5 sb 25 (.int .i64 z) (.slice pa n pc) (.string r)) := XS.out.below hb
  replace LB : Hid (Code8 v5 ab N SF) := LB.out.below hb
  replace LW : Hid (Code8 v5 aw N SF) := LW.out.below hb
  have RX : Hid (Els v5 2 ax n (pcF P)) := hx
  clear hb hx RD CB
  have hb : Below v5.heap.size v5 (v5.alloc (.cells #[.int .i64 z, .slice ax n cx, .string r] 25)) := (Below.refl _ _).alloc (Nat.le_refl _) _
  have XX : Hid (Box3 (v5.alloc (.cells #[.int .i64 z, .slice ax n cx, .string r] 25)) v5.heap.size 25 (.int .i64 z) (.slice ax n cx) (.string r)) := Box3.made _ _ _ _ _
  have x0 := XX.out.c0
  have x1 := XX.out.c1
  have x2 := XX.out.c2
  have s0 := (XS.out.below hb).c0
  have s1 := (XS.out.below hb).c1
  have s2 := (XS.out.below hb).c2
  have cv1 := CV.out ab cb _ (LB.out.below hb)
  have cv2 := CV.out aw cw _ (LW.out.below hb)
  go_wp2_with fail
  generalize (v5.alloc (.cells #[.int .i64 z, .slice ax n cx, .string r] 25)) = v6 at *
  replace A1 : Hid (Below w.heap.size w v6) := A1.out.trans (hb.mono A1.out.size)
  replace R1 : Hid (IsRow .u8 v6 a1 l1 c1 zs1) := isRow_belowS R1.out hb
  replace H1 : Hid (Code8 v6 a1 l1 z1) := H1.out.below hb
  replace HT : Hid (Tabs v6) := HT.out.below hb
  replace RS : Hid (Els v6 2 pa n (pcF P)) := RS.out.below hb
  replace XS : Hid (Box3 v6 sb 25 (.int .i64 z) (.slice pa n pc) (.string r)) := XS.out.below hb
  replace LB : Hid (Code8 v6 ab N SF) := LB.out.below hb
  replace LW : Hid (Code8 v6 aw N SF) := LW.out.below hb
  replace RX : Hid (Els v6 2 ax n (pcF P)) := RX.out.below hb
  clear hb x0 x1 x2
  obtain ⟨xb, hxb⟩ : ∃ bx, bx = v5.heap.size := ⟨_, rfl⟩
  rw [← hxb] at XX ⊢
  clear hxb
  clear s0 s1 s2 cv1 cv2 CV
  refine (OK.out _ RS.out).mono ?_
  rintro e v7 ⟨rfl, hb⟩
  replace A1 : Hid (Below w.heap.size w v7) := A1.out.trans (hb.mono A1.out.size)
  replace R1 : Hid (IsRow .u8 v7 a1 l1 c1 zs1) := isRow_belowS R1.out hb
  replace H1 : Hid (Code8 v7 a1 l1 z1) := H1.out.below hb
  replace HT : Hid (Tabs v7) := HT.out.below hb
  replace RS : Hid (Els v7 2 pa n (pcF P)) := RS.out.below hb
  replace XS : Hid (Box3 v7 sb 25 (.int .i64 z) (.slice pa n pc) (.string r)) := XS.out.below hb
  replace LB : Hid (Code8 v7 ab N SF) := LB.out.below hb
  replace LW : Hid (Code8 v7 aw N SF) := LW.out.below hb
  replace RX : Hid (Els v7 2 ax n (pcF P)) := RX.out.below hb
  replace XX : Hid (Box3 v7 xb 25 (.int .i64 z) (.slice ax n cx) (.string r)) := XX.out.below hb
  clear hb OK
  clear LB LW
  have s0 := XS.out.c0
  have s1 := XS.out.c1
  have s2 := XS.out.c2
  go_wp2_with fail
  refine (FB.out _ RS.out).mono ?_
  rintro e v8 ⟨⟨af, xf, rfl, hx⟩, hb⟩
  replace A1 : Hid (Below w.heap.size w v8) := A1.out.trans (hb.mono A1.out.size)
  replace R1 : Hid (IsRow .u8 v8 a1 l1 c1 zs1) := isRow_belowS R1.out hb
  replace H1 : Hid (Code8 v8 a1 l1 z1) := H1.out.below hb
  replace HT : Hid (Tabs v8) := HT.out.below hb
  replace RS : Hid (Els v8 2 pa n (pcF P)) := RS.out.below hb
  replace XS : Hid (Box3 v8 sb 25 (.int .i64 z) (.slice pa n pc) (.string r)) := XS.out.below hb
  replace RX : Hid (Els v8 2 ax n (pcF P)) := RX.out.below hb
  replace XX : Hid (Box3 v8 xb 25 (.int .i64 z) (.slice ax n cx) (.string r)) := XX.out.below hb
  have TD : Hid (Num v8 af LL NI) := hx
  clear hb hx FB s0 s1 s2
  have s0 := XS.out.c0
  have s1 := XS.out.c1
  have s2 := XS.out.c2
  clear zz
  have HFS : Hid ((LL : Int) + (n : Int) = 62) := fsI
  have LB62 : (LL : Int) ≤ 62 := by omega
  go_wp2
  clear s0 s1 s2 fsI LB62
  go_loopw [14] (fun i wr => ∃ k : Nat, k ≤ n ∧ i = .int .i64 k ∧ Below v8.heap.size v8 wr) (fun i _ => n - (intOf i).toNat)
  case atStart => exact ⟨0, by omega, rfl, Below.refl _ _⟩
  case round =>
    obtain ⟨k, hk, rfl, hb⟩ := hrel
    have HB : Hid (Below v8.heap.size v8 wr) := hb
    have s1 := (XS.out.below hb).c1
    by_cases hlt : k < n
    · have hlt' : (k : Int) < (n : Int) := by omega
      have k0' : (0 : Int) ≤ (k : Int) := by omega
      have kb : (k : Int) ≤ 16 := by omega
      have HK : Hid (k < n ∧ n ≤ 16) := ⟨hlt, n16⟩
      have x1 := (XX.out.below hb).c1
      have HIk := HI.out k
      obtain ⟨pg, po, rfl, hcs⟩ := (RS.out.below hb).opened (by omega)
      obtain ⟨qg, qo, rfl, hcx⟩ := (RX.out.below hb).opened (by omega)
      obtain ⟨d0, d1⟩ := Els.pcC hcs k hlt
      obtain ⟨e0, e1⟩ := Els.pcC hcx k hlt
      have WD : Hid (Num wr af LL NI) := TD.out.below hb
      have HRR : Hid (∀ (a : Option Addr) (x : Nat) (u : World), Num u a LL NI → Calls Tryz.prog 10 #[.slice a LL x, .int .i64 (P k).bk] u fun e w' => e = .returned (.bool false) ∧ Below u.heap.size u w') := fun a x u h => HIk a x u hlt h
      clear hlt hk hb hcs hcx HIk
      generalize (P k).bk = BK at *
      generalize (P k).vs = VS at *
      have bk1 : (BK != BK) = false := by simp
      have vs1 : (VS != VS) = false := by simp
      go_wp2_with fail
      have H : Below wr.heap.size wr wr.drew := (Below.refl _ _).drew
      refine wp_region_noPanic ?_
      refine wp_region_held_drew (S := fun w' => Below wr.heap.size wr w') (by kernel_rfl) H (fun _ => ?_)
      generalize wr.drew = x0 at *
      refine wpAnyH_take (i := 0) (v := .pointer (some ⟨xb, 1, none⟩)) rfl (by kernel_rfl) (by kernel_rfl) (by kernel_rfl) (fun _ _ _ h => h) (Or.inl ⟨by rfl, ?_⟩) H ?_
      · intro w' hSw; clear hSw; go_simp
      change wpAnyH _ _ _ _ _ _ _ { tmps := #[_,_,_,_,_,_,_,_,_,_,_,_,_,_,_,_,_,_,_,_,_,_,_,_,_,_,_,_,_,_,_,_,_,_,_,_,_,_,_,_,_,_,_,_,_,_,_,_,_,_,_,_,_,_,_,_,_,_,_,_,_,_,_,_,_,_,_,_,_,_,_,_,_,_,_,_,_,_,_,_,_,_,_,_,_,_,_,_,_,_,_,_,_,_,_,_,_,_,_,_,_,_,_,_,_,_,_,_,_,_,_,_,_,_,_,_,_,_,_,_,_,_,_,_,_,_,_,_,_,_,_,_,_,_,_,_,_,_,_,_,_,_,_,_,_,_,_,_,_,_,_,_,_,_,_,_,_,_,_,_,_,_,_,_,_,_,_,_,_,_,_,_,_,_,_,_,_,_,_,_,_,_,_,_,_,_,_,_,_,_,_,_,_,_,_,_,_,_,_,_,_,_,_,_,_,_,_,_,_,_,_,_,_,_], defers := _ } _
      refine wpAnyH_take (i := 1) (v := .slice (some ⟨qg, qo, none⟩) n cx) rfl (by kernel_rfl) (by kernel_rfl) (by kernel_rfl) (fun _ _ _ h => h) (Or.inl ⟨by rfl, ?_⟩) H ?_
      · intro w' hSw; have q_x1 := (hSw.cell (strBlock x1)).trans x1; clear hSw; go_simp
      change wpAnyH _ _ _ _ _ _ _ { tmps := #[_,_,_,_,_,_,_,_,_,_,_,_,_,_,_,_,_,_,_,_,_,_,_,_,_,_,_,_,_,_,_,_,_,_,_,_,_,_,_,_,_,_,_,_,_,_,_,_,_,_,_,_,_,_,_,_,_,_,_,_,_,_,_,_,_,_,_,_,_,_,_,_,_,_,_,_,_,_,_,_,_,_,_,_,_,_,_,_,_,_,_,_,_,_,_,_,_,_,_,_,_,_,_,_,_,_,_,_,_,_,_,_,_,_,_,_,_,_,_,_,_,_,_,_,_,_,_,_,_,_,_,_,_,_,_,_,_,_,_,_,_,_,_,_,_,_,_,_,_,_,_,_,_,_,_,_,_,_,_,_,_,_,_,_,_,_,_,_,_,_,_,_,_,_,_,_,_,_,_,_,_,_,_,_,_,_,_,_,_,_,_,_,_,_,_,_,_,_,_,_,_,_,_,_,_,_,_,_,_,_,_,_,_,_], defers := _ } _
      refine wpAnyH_take (i := 2) (v := .int .i64 (k : Int)) rfl (by kernel_rfl) (by kernel_rfl) (by kernel_rfl) (fun _ _ _ h => h) (Or.inl ⟨by rfl, ?_⟩) H ?_
      · intro w' hSw; clear hSw; go_simp
      change wpAnyH _ _ _ _ _ _ _ { tmps := #[_,_,_,_,_,_,_,_,_,_,_,_,_,_,_,_,_,_,_,_,_,_,_,_,_,_,_,_,_,_,_,_,_,_,_,_,_,_,_,_,_,_,_,_,_,_,_,_,_,_,_,_,_,_,_,_,_,_,_,_,_,_,_,_,_,_,_,_,_,_,_,_,_,_,_,_,_,_,_,_,_,_,_,_,_,_,_,_,_,_,_,_,_,_,_,_,_,_,_,_,_,_,_,_,_,_,_,_,_,_,_,_,_,_,_,_,_,_,_,_,_,_,_,_,_,_,_,_,_,_,_,_,_,_,_,_,_,_,_,_,_,_,_,_,_,_,_,_,_,_,_,_,_,_,_,_,_,_,_,_,_,_,_,_,_,_,_,_,_,_,_,_,_,_,_,_,_,_,_,_,_,_,_,_,_,_,_,_,_,_,_,_,_,_,_,_,_,_,_,_,_,_,_,_,_,_,_,_,_,_,_,_,_,_], defers := _ } _
      refine wpAnyH_take (i := 3) (v := .pointer (some ⟨qg, qo + k * 2, none⟩)) rfl (by kernel_rfl) (by kernel_rfl) (by kernel_rfl) (fun _ _ _ h => h) (Or.inl ⟨by rfl, ?_⟩) H ?_
      · intro w' hSw; clear hSw; go_simp
      change wpAnyH _ _ _ _ _ _ _ { tmps := #[_,_,_,_,_,_,_,_,_,_,_,_,_,_,_,_,_,_,_,_,_,_,_,_,_,_,_,_,_,_,_,_,_,_,_,_,_,_,_,_,_,_,_,_,_,_,_,_,_,_,_,_,_,_,_,_,_,_,_,_,_,_,_,_,_,_,_,_,_,_,_,_,_,_,_,_,_,_,_,_,_,_,_,_,_,_,_,_,_,_,_,_,_,_,_,_,_,_,_,_,_,_,_,_,_,_,_,_,_,_,_,_,_,_,_,_,_,_,_,_,_,_,_,_,_,_,_,_,_,_,_,_,_,_,_,_,_,_,_,_,_,_,_,_,_,_,_,_,_,_,_,_,_,_,_,_,_,_,_,_,_,_,_,_,_,_,_,_,_,_,_,_,_,_,_,_,_,_,_,_,_,_,_,_,_,_,_,_,_,_,_,_,_,_,_,_,_,_,_,_,_,_,_,_,_,_,_,_,_,_,_,_,_,_], defers := _ } _
      refine wpAnyH_take (i := 4) (v := .agg #[.int .i64 BK, .int .i64 VS]) rfl (by kernel_rfl) (by kernel_rfl) (by kernel_rfl) (fun _ _ _ h => h) (Or.inl ⟨by rfl, ?_⟩) H ?_
      · intro w' hSw; have q_e0 := (hSw.cell (strBlock e0)).trans e0; have q_e1 := (hSw.cell (strBlock e1)).trans e1; clear hSw; go_simp
      change wpAnyH _ _ _ _ _ _ _ { tmps := #[_,_,_,_,_,_,_,_,_,_,_,_,_,_,_,_,_,_,_,_,_,_,_,_,_,_,_,_,_,_,_,_,_,_,_,_,_,_,_,_,_,_,_,_,_,_,_,_,_,_,_,_,_,_,_,_,_,_,_,_,_,_,_,_,_,_,_,_,_,_,_,_,_,_,_,_,_,_,_,_,_,_,_,_,_,_,_,_,_,_,_,_,_,_,_,_,_,_,_,_,_,_,_,_,_,_,_,_,_,_,_,_,_,_,_,_,_,_,_,_,_,_,_,_,_,_,_,_,_,_,_,_,_,_,_,_,_,_,_,_,_,_,_,_,_,_,_,_,_,_,_,_,_,_,_,_,_,_,_,_,_,_,_,_,_,_,_,_,_,_,_,_,_,_,_,_,_,_,_,_,_,_,_,_,_,_,_,_,_,_,_,_,_,_,_,_,_,_,_,_,_,_,_,_,_,_,_,_,_,_,_,_,_,_], defers := _ } _
      refine wpAnyH_take (i := 5) (v := .pointer (some ⟨sb, 1, none⟩)) rfl (by kernel_rfl) (by kernel_rfl) (by kernel_rfl) (fun _ _ _ h => h) (Or.inl ⟨by rfl, ?_⟩) H ?_
      · intro w' hSw; clear hSw; go_simp
      change wpAnyH _ _ _ _ _ _ _ { tmps := #[_,_,_,_,_,_,_,_,_,_,_,_,_,_,_,_,_,_,_,_,_,_,_,_,_,_,_,_,_,_,_,_,_,_,_,_,_,_,_,_,_,_,_,_,_,_,_,_,_,_,_,_,_,_,_,_,_,_,_,_,_,_,_,_,_,_,_,_,_,_,_,_,_,_,_,_,_,_,_,_,_,_,_,_,_,_,_,_,_,_,_,_,_,_,_,_,_,_,_,_,_,_,_,_,_,_,_,_,_,_,_,_,_,_,_,_,_,_,_,_,_,_,_,_,_,_,_,_,_,_,_,_,_,_,_,_,_,_,_,_,_,_,_,_,_,_,_,_,_,_,_,_,_,_,_,_,_,_,_,_,_,_,_,_,_,_,_,_,_,_,_,_,_,_,_,_,_,_,_,_,_,_,_,_,_,_,_,_,_,_,_,_,_,_,_,_,_,_,_,_,_,_,_,_,_,_,_,_,_,_,_,_,_,_], defers := _ } _
      refine wpAnyH_take (i := 6) (v := .slice (some ⟨pg, po, none⟩) n pc) rfl (by kernel_rfl) (by kernel_rfl) (by kernel_rfl) (fun _ _ _ h => h) (Or.inl ⟨by rfl, ?_⟩) H ?_
      · intro w' hSw; have q_s1 := (hSw.cell (strBlock s1)).trans s1; clear hSw; go_simp
      change wpAnyH _ _ _ _ _ _ _ { tmps := #[_,_,_,_,_,_,_,_,_,_,_,_,_,_,_,_,_,_,_,_,_,_,_,_,_,_,_,_,_,_,_,_,_,_,_,_,_,_,_,_,_,_,_,_,_,_,_,_,_,_,_,_,_,_,_,_,_,_,_,_,_,_,_,_,_,_,_,_,_,_,_,_,_,_,_,_,_,_,_,_,_,_,_,_,_,_,_,_,_,_,_,_,_,_,_,_,_,_,_,_,_,_,_,_,_,_,_,_,_,_,_,_,_,_,_,_,_,_,_,_,_,_,_,_,_,_,_,_,_,_,_,_,_,_,_,_,_,_,_,_,_,_,_,_,_,_,_,_,_,_,_,_,_,_,_,_,_,_,_,_,_,_,_,_,_,_,_,_,_,_,_,_,_,_,_,_,_,_,_,_,_,_,_,_,_,_,_,_,_,_,_,_,_,_,_,_,_,_,_,_,_,_,_,_,_,_,_,_,_,_,_,_,_,_], defers := _ } _
      refine wpAnyH_take (i := 7) (v := .int .i64 (k : Int)) rfl (by kernel_rfl) (by kernel_rfl) (by kernel_rfl) (fun _ _ _ h => h) (Or.inl ⟨by rfl, ?_⟩) H ?_
      · intro w' hSw; clear hSw; go_simp
      change wpAnyH _ _ _ _ _ _ _ { tmps := #[_,_,_,_,_,_,_,_,_,_,_,_,_,_,_,_,_,_,_,_,_,_,_,_,_,_,_,_,_,_,_,_,_,_,_,_,_,_,_,_,_,_,_,_,_,_,_,_,_,_,_,_,_,_,_,_,_,_,_,_,_,_,_,_,_,_,_,_,_,_,_,_,_,_,_,_,_,_,_,_,_,_,_,_,_,_,_,_,_,_,_,_,_,_,_,_,_,_,_,_,_,_,_,_,_,_,_,_,_,_,_,_,_,_,_,_,_,_,_,_,_,_,_,_,_,_,_,_,_,_,_,_,_,_,_,_,_,_,_,_,_,_,_,_,_,_,_,_,_,_,_,_,_,_,_,_,_,_,_,_,_,_,_,_,_,_,_,_,_,_,_,_,_,_,_,_,_,_,_,_,_,_,_,_,_,_,_,_,_,_,_,_,_,_,_,_,_,_,_,_,_,_,_,_,_,_,_,_,_,_,_,_,_,_], defers := _ } _
      refine wpAnyH_take (i := 8) (v := .pointer (some ⟨pg, po + k * 2, none⟩)) rfl (by kernel_rfl) (by kernel_rfl) (by kernel_rfl) (fun _ _ _ h => h) (Or.inl ⟨by rfl, ?_⟩) H ?_
      · intro w' hSw; clear hSw; go_simp
      change wpAnyH _ _ _ _ _ _ _ { tmps := #[_,_,_,_,_,_,_,_,_,_,_,_,_,_,_,_,_,_,_,_,_,_,_,_,_,_,_,_,_,_,_,_,_,_,_,_,_,_,_,_,_,_,_,_,_,_,_,_,_,_,_,_,_,_,_,_,_,_,_,_,_,_,_,_,_,_,_,_,_,_,_,_,_,_,_,_,_,_,_,_,_,_,_,_,_,_,_,_,_,_,_,_,_,_,_,_,_,_,_,_,_,_,_,_,_,_,_,_,_,_,_,_,_,_,_,_,_,_,_,_,_,_,_,_,_,_,_,_,_,_,_,_,_,_,_,_,_,_,_,_,_,_,_,_,_,_,_,_,_,_,_,_,_,_,_,_,_,_,_,_,_,_,_,_,_,_,_,_,_,_,_,_,_,_,_,_,_,_,_,_,_,_,_,_,_,_,_,_,_,_,_,_,_,_,_,_,_,_,_,_,_,_,_,_,_,_,_,_,_,_,_,_,_,_], defers := _ } _
      refine wpAnyH_take (i := 9) (v := .agg #[.int .i64 BK, .int .i64 VS]) rfl (by kernel_rfl) (by kernel_rfl) (by kernel_rfl) (fun _ _ _ h => h) (Or.inl ⟨by rfl, ?_⟩) H ?_
      · intro w' hSw; have q_d0 := (hSw.cell (strBlock d0)).trans d0; have q_d1 := (hSw.cell (strBlock d1)).trans d1; clear hSw; go_simp
      change wpAnyH _ _ _ _ _ _ _ { tmps := #[_,_,_,_,_,_,_,_,_,_,_,_,_,_,_,_,_,_,_,_,_,_,_,_,_,_,_,_,_,_,_,_,_,_,_,_,_,_,_,_,_,_,_,_,_,_,_,_,_,_,_,_,_,_,_,_,_,_,_,_,_,_,_,_,_,_,_,_,_,_,_,_,_,_,_,_,_,_,_,_,_,_,_,_,_,_,_,_,_,_,_,_,_,_,_,_,_,_,_,_,_,_,_,_,_,_,_,_,_,_,_,_,_,_,_,_,_,_,_,_,_,_,_,_,_,_,_,_,_,_,_,_,_,_,_,_,_,_,_,_,_,_,_,_,_,_,_,_,_,_,_,_,_,_,_,_,_,_,_,_,_,_,_,_,_,_,_,_,_,_,_,_,_,_,_,_,_,_,_,_,_,_,_,_,_,_,_,_,_,_,_,_,_,_,_,_,_,_,_,_,_,_,_,_,_,_,_,_,_,_,_,_,_,_], defers := _ } _
      refine wpAnyH_take (i := 10) (v := .bool false) rfl (by kernel_rfl) (by kernel_rfl) (by kernel_rfl) (fun _ _ _ h => h) (Or.inl ⟨by rfl, ?_⟩) H ?_
      · intro w' hSw; clear hSw; go_simp
      change wpAnyH _ _ _ _ _ _ _ { tmps := #[_,_,_,_,_,_,_,_,_,_,_,_,_,_,_,_,_,_,_,_,_,_,_,_,_,_,_,_,_,_,_,_,_,_,_,_,_,_,_,_,_,_,_,_,_,_,_,_,_,_,_,_,_,_,_,_,_,_,_,_,_,_,_,_,_,_,_,_,_,_,_,_,_,_,_,_,_,_,_,_,_,_,_,_,_,_,_,_,_,_,_,_,_,_,_,_,_,_,_,_,_,_,_,_,_,_,_,_,_,_,_,_,_,_,_,_,_,_,_,_,_,_,_,_,_,_,_,_,_,_,_,_,_,_,_,_,_,_,_,_,_,_,_,_,_,_,_,_,_,_,_,_,_,_,_,_,_,_,_,_,_,_,_,_,_,_,_,_,_,_,_,_,_,_,_,_,_,_,_,_,_,_,_,_,_,_,_,_,_,_,_,_,_,_,_,_,_,_,_,_,_,_,_,_,_,_,_,_,_,_,_,_,_,_], defers := _ } _
      refine wpAnyH_take (i := 11) (v := .bool false) rfl (by kernel_rfl) (by kernel_rfl) (by kernel_rfl) (fun _ _ _ h => h) (Or.inl ⟨by rfl, ?_⟩) H ?_
      · intro w' hSw; clear hSw; go_simp
      change wpAnyH _ _ _ _ _ _ _ { tmps := #[_,_,_,_,_,_,_,_,_,_,_,_,_,_,_,_,_,_,_,_,_,_,_,_,_,_,_,_,_,_,_,_,_,_,_,_,_,_,_,_,_,_,_,_,_,_,_,_,_,_,_,_,_,_,_,_,_,_,_,_,_,_,_,_,_,_,_,_,_,_,_,_,_,_,_,_,_,_,_,_,_,_,_,_,_,_,_,_,_,_,_,_,_,_,_,_,_,_,_,_,_,_,_,_,_,_,_,_,_,_,_,_,_,_,_,_,_,_,_,_,_,_,_,_,_,_,_,_,_,_,_,_,_,_,_,_,_,_,_,_,_,_,_,_,_,_,_,_,_,_,_,_,_,_,_,_,_,_,_,_,_,_,_,_,_,_,_,_,_,_,_,_,_,_,_,_,_,_,_,_,_,_,_,_,_,_,_,_,_,_,_,_,_,_,_,_,_,_,_,_,_,_,_,_,_,_,_,_,_,_,_,_,_,_], defers := _ } _
      refine wpAnyH_take (i := 12) (v := .slice af LL xf) rfl (by kernel_rfl) (by kernel_rfl) (by kernel_rfl) (fun _ _ _ h => h) (Or.inl ⟨by rfl, ?_⟩) H ?_
      · intro w' hSw; clear hSw; go_simp
      change wpAnyH _ _ _ _ _ _ _ { tmps := #[_,_,_,_,_,_,_,_,_,_,_,_,_,_,_,_,_,_,_,_,_,_,_,_,_,_,_,_,_,_,_,_,_,_,_,_,_,_,_,_,_,_,_,_,_,_,_,_,_,_,_,_,_,_,_,_,_,_,_,_,_,_,_,_,_,_,_,_,_,_,_,_,_,_,_,_,_,_,_,_,_,_,_,_,_,_,_,_,_,_,_,_,_,_,_,_,_,_,_,_,_,_,_,_,_,_,_,_,_,_,_,_,_,_,_,_,_,_,_,_,_,_,_,_,_,_,_,_,_,_,_,_,_,_,_,_,_,_,_,_,_,_,_,_,_,_,_,_,_,_,_,_,_,_,_,_,_,_,_,_,_,_,_,_,_,_,_,_,_,_,_,_,_,_,_,_,_,_,_,_,_,_,_,_,_,_,_,_,_,_,_,_,_,_,_,_,_,_,_,_,_,_,_,_,_,_,_,_,_,_,_,_,_,_], defers := _ } _
      refine wpAnyH_take (i := 13) (v := .pointer (some ⟨sb, 1, none⟩)) rfl (by kernel_rfl) (by kernel_rfl) (by kernel_rfl) (fun _ _ _ h => h) (Or.inl ⟨by rfl, ?_⟩) H ?_
      · intro w' hSw; clear hSw; go_simp
      change wpAnyH _ _ _ _ _ _ _ { tmps := #[_,_,_,_,_,_,_,_,_,_,_,_,_,_,_,_,_,_,_,_,_,_,_,_,_,_,_,_,_,_,_,_,_,_,_,_,_,_,_,_,_,_,_,_,_,_,_,_,_,_,_,_,_,_,_,_,_,_,_,_,_,_,_,_,_,_,_,_,_,_,_,_,_,_,_,_,_,_,_,_,_,_,_,_,_,_,_,_,_,_,_,_,_,_,_,_,_,_,_,_,_,_,_,_,_,_,_,_,_,_,_,_,_,_,_,_,_,_,_,_,_,_,_,_,_,_,_,_,_,_,_,_,_,_,_,_,_,_,_,_,_,_,_,_,_,_,_,_,_,_,_,_,_,_,_,_,_,_,_,_,_,_,_,_,_,_,_,_,_,_,_,_,_,_,_,_,_,_,_,_,_,_,_,_,_,_,_,_,_,_,_,_,_,_,_,_,_,_,_,_,_,_,_,_,_,_,_,_,_,_,_,_,_,_], defers := _ } _
      refine wpAnyH_take (i := 14) (v := .slice (some ⟨pg, po, none⟩) n pc) rfl (by kernel_rfl) (by kernel_rfl) (by kernel_rfl) (fun _ _ _ h => h) (Or.inl ⟨by rfl, ?_⟩) H ?_
      · intro w' hSw; have q_s1 := (hSw.cell (strBlock s1)).trans s1; clear hSw; go_simp
      change wpAnyH _ _ _ _ _ _ _ { tmps := #[_,_,_,_,_,_,_,_,_,_,_,_,_,_,_,_,_,_,_,_,_,_,_,_,_,_,_,_,_,_,_,_,_,_,_,_,_,_,_,_,_,_,_,_,_,_,_,_,_,_,_,_,_,_,_,_,_,_,_,_,_,_,_,_,_,_,_,_,_,_,_,_,_,_,_,_,_,_,_,_,_,_,_,_,_,_,_,_,_,_,_,_,_,_,_,_,_,_,_,_,_,_,_,_,_,_,_,_,_,_,_,_,_,_,_,_,_,_,_,_,_,_,_,_,_,_,_,_,_,_,_,_,_,_,_,_,_,_,_,_,_,_,_,_,_,_,_,_,_,_,_,_,_,_,_,_,_,_,_,_,_,_,_,_,_,_,_,_,_,_,_,_,_,_,_,_,_,_,_,_,_,_,_,_,_,_,_,_,_,_,_,_,_,_,_,_,_,_,_,_,_,_,_,_,_,_,_,_,_,_,_,_,_,_], defers := _ } _
      refine wpAnyH_take (i := 15) (v := .int .i64 (k : Int)) rfl (by kernel_rfl) (by kernel_rfl) (by kernel_rfl) (fun _ _ _ h => h) (Or.inl ⟨by rfl, ?_⟩) H ?_
      · intro w' hSw; clear hSw; go_simp
      change wpAnyH _ _ _ _ _ _ _ { tmps := #[_,_,_,_,_,_,_,_,_,_,_,_,_,_,_,_,_,_,_,_,_,_,_,_,_,_,_,_,_,_,_,_,_,_,_,_,_,_,_,_,_,_,_,_,_,_,_,_,_,_,_,_,_,_,_,_,_,_,_,_,_,_,_,_,_,_,_,_,_,_,_,_,_,_,_,_,_,_,_,_,_,_,_,_,_,_,_,_,_,_,_,_,_,_,_,_,_,_,_,_,_,_,_,_,_,_,_,_,_,_,_,_,_,_,_,_,_,_,_,_,_,_,_,_,_,_,_,_,_,_,_,_,_,_,_,_,_,_,_,_,_,_,_,_,_,_,_,_,_,_,_,_,_,_,_,_,_,_,_,_,_,_,_,_,_,_,_,_,_,_,_,_,_,_,_,_,_,_,_,_,_,_,_,_,_,_,_,_,_,_,_,_,_,_,_,_,_,_,_,_,_,_,_,_,_,_,_,_,_,_,_,_,_,_], defers := _ } _
      refine wpAnyH_take (i := 16) (v := .pointer (some ⟨pg, po + k * 2, none⟩)) rfl (by kernel_rfl) (by kernel_rfl) (by kernel_rfl) (fun _ _ _ h => h) (Or.inl ⟨by rfl, ?_⟩) H ?_
      · intro w' hSw; clear hSw; go_simp
      change wpAnyH _ _ _ _ _ _ _ { tmps := #[_,_,_,_,_,_,_,_,_,_,_,_,_,_,_,_,_,_,_,_,_,_,_,_,_,_,_,_,_,_,_,_,_,_,_,_,_,_,_,_,_,_,_,_,_,_,_,_,_,_,_,_,_,_,_,_,_,_,_,_,_,_,_,_,_,_,_,_,_,_,_,_,_,_,_,_,_,_,_,_,_,_,_,_,_,_,_,_,_,_,_,_,_,_,_,_,_,_,_,_,_,_,_,_,_,_,_,_,_,_,_,_,_,_,_,_,_,_,_,_,_,_,_,_,_,_,_,_,_,_,_,_,_,_,_,_,_,_,_,_,_,_,_,_,_,_,_,_,_,_,_,_,_,_,_,_,_,_,_,_,_,_,_,_,_,_,_,_,_,_,_,_,_,_,_,_,_,_,_,_,_,_,_,_,_,_,_,_,_,_,_,_,_,_,_,_,_,_,_,_,_,_,_,_,_,_,_,_,_,_,_,_,_,_], defers := _ } _
      refine wpAnyH_take (i := 17) (v := .pointer (some ⟨pg, po + k * 2, none⟩)) rfl (by kernel_rfl) (by kernel_rfl) (by kernel_rfl) (fun _ _ _ h => h) (Or.inl ⟨by rfl, ?_⟩) H ?_
      · intro w' hSw; clear hSw; go_simp
      change wpAnyH _ _ _ _ _ _ _ { tmps := #[_,_,_,_,_,_,_,_,_,_,_,_,_,_,_,_,_,_,_,_,_,_,_,_,_,_,_,_,_,_,_,_,_,_,_,_,_,_,_,_,_,_,_,_,_,_,_,_,_,_,_,_,_,_,_,_,_,_,_,_,_,_,_,_,_,_,_,_,_,_,_,_,_,_,_,_,_,_,_,_,_,_,_,_,_,_,_,_,_,_,_,_,_,_,_,_,_,_,_,_,_,_,_,_,_,_,_,_,_,_,_,_,_,_,_,_,_,_,_,_,_,_,_,_,_,_,_,_,_,_,_,_,_,_,_,_,_,_,_,_,_,_,_,_,_,_,_,_,_,_,_,_,_,_,_,_,_,_,_,_,_,_,_,_,_,_,_,_,_,_,_,_,_,_,_,_,_,_,_,_,_,_,_,_,_,_,_,_,_,_,_,_,_,_,_,_,_,_,_,_,_,_,_,_,_,_,_,_,_,_,_,_,_,_], defers := _ } _
      refine wpAnyH_take (i := 18) (v := .int .i64 BK) rfl (by kernel_rfl) (by kernel_rfl) (by kernel_rfl) (fun _ _ _ h => h) (Or.inl ⟨by rfl, ?_⟩) H ?_
      · intro w' hSw; have q_d0 := (hSw.cell (strBlock d0)).trans d0; clear hSw; go_simp
      change wpAnyH _ _ _ _ _ _ _ { tmps := #[_,_,_,_,_,_,_,_,_,_,_,_,_,_,_,_,_,_,_,_,_,_,_,_,_,_,_,_,_,_,_,_,_,_,_,_,_,_,_,_,_,_,_,_,_,_,_,_,_,_,_,_,_,_,_,_,_,_,_,_,_,_,_,_,_,_,_,_,_,_,_,_,_,_,_,_,_,_,_,_,_,_,_,_,_,_,_,_,_,_,_,_,_,_,_,_,_,_,_,_,_,_,_,_,_,_,_,_,_,_,_,_,_,_,_,_,_,_,_,_,_,_,_,_,_,_,_,_,_,_,_,_,_,_,_,_,_,_,_,_,_,_,_,_,_,_,_,_,_,_,_,_,_,_,_,_,_,_,_,_,_,_,_,_,_,_,_,_,_,_,_,_,_,_,_,_,_,_,_,_,_,_,_,_,_,_,_,_,_,_,_,_,_,_,_,_,_,_,_,_,_,_,_,_,_,_,_,_,_,_,_,_,_,_], defers := _ } _
      refine wpAnyH_ready (rs := [19]) (by kernel_rfl) (by simp) ?_
      refine AllReadyH.cons rfl (fun KK hK => ?_) AllReadyH.nil
      go_simp
      refine (HRR.out _ _ _ (WD.out.below H)).mono ?_
      rintro e x1 ⟨rfl, hb⟩
      replace H : Below wr.heap.size wr x1 := H.trans (hb.mono H.size)
      clear hb
      refine hK.out _ _ H (fun _ => ?_)
      clear hK KK
      change wpAnyH _ _ _ _ _ _ _ { tmps := #[_,_,_,_,_,_,_,_,_,_,_,_,_,_,_,_,_,_,_,_,_,_,_,_,_,_,_,_,_,_,_,_,_,_,_,_,_,_,_,_,_,_,_,_,_,_,_,_,_,_,_,_,_,_,_,_,_,_,_,_,_,_,_,_,_,_,_,_,_,_,_,_,_,_,_,_,_,_,_,_,_,_,_,_,_,_,_,_,_,_,_,_,_,_,_,_,_,_,_,_,_,_,_,_,_,_,_,_,_,_,_,_,_,_,_,_,_,_,_,_,_,_,_,_,_,_,_,_,_,_,_,_,_,_,_,_,_,_,_,_,_,_,_,_,_,_,_,_,_,_,_,_,_,_,_,_,_,_,_,_,_,_,_,_,_,_,_,_,_,_,_,_,_,_,_,_,_,_,_,_,_,_,_,_,_,_,_,_,_,_,_,_,_,_,_,_,_,_,_,_,_,_,_,_,_,_,_,_,_,_,_,_,_,_], defers := _ } _
      refine wpAnyH_take (i := 20) (v := .bool false) rfl (by kernel_rfl) (by kernel_rfl) (by kernel_rfl) (fun _ _ _ h => h) (Or.inl ⟨by rfl, ?_⟩) H ?_
      · intro w' hSw; clear hSw; go_simp
      change wpAnyH _ _ _ _ _ _ _ { tmps := #[_,_,_,_,_,_,_,_,_,_,_,_,_,_,_,_,_,_,_,_,_,_,_,_,_,_,_,_,_,_,_,_,_,_,_,_,_,_,_,_,_,_,_,_,_,_,_,_,_,_,_,_,_,_,_,_,_,_,_,_,_,_,_,_,_,_,_,_,_,_,_,_,_,_,_,_,_,_,_,_,_,_,_,_,_,_,_,_,_,_,_,_,_,_,_,_,_,_,_,_,_,_,_,_,_,_,_,_,_,_,_,_,_,_,_,_,_,_,_,_,_,_,_,_,_,_,_,_,_,_,_,_,_,_,_,_,_,_,_,_,_,_,_,_,_,_,_,_,_,_,_,_,_,_,_,_,_,_,_,_,_,_,_,_,_,_,_,_,_,_,_,_,_,_,_,_,_,_,_,_,_,_,_,_,_,_,_,_,_,_,_,_,_,_,_,_,_,_,_,_,_,_,_,_,_,_,_,_,_,_,_,_,_,_], defers := _ } _
      refine wpAnyH_done (by kernel_rfl) ?_ _
      refine NoPanic.normal ?_
      have HB2 : Hid (Below v8.heap.size v8 x1) := HB.out.trans (H.mono HB.out.size)
      clear H
      go_wp2
      go_roundw
      case rel => exact ⟨k + 1, by have := HK.out; omega, by go_num, HB2.out⟩
      case measure => have := HK.out; simp [intOf]; omega
    · obtain rfl : n = k := by omega
      have hnlt : ¬ (n : Int) < (n : Int) := by omega
      replace A1 : Hid (Below w.heap.size w wr) := A1.out.trans (hb.mono A1.out.size)
      replace R1 : Hid (IsRow .u8 wr a1 l1 c1 zs1) := isRow_belowS R1.out hb
      replace H1 : Hid (Code8 wr a1 l1 z1) := H1.out.below hb
      replace HT : Hid (Tabs wr) := HT.out.below hb
      replace RS : Hid (Els wr 2 pa n (pcF P)) := RS.out.below hb
      replace XS : Hid (Box3 wr sb 25 (.int .i64 z) (.slice pa n pc) (.string r)) := XS.out.below hb
      replace RX : Hid (Els wr 2 ax n (pcF P)) := RX.out.below hb
      replace XX : Hid (Box3 wr xb 25 (.int .i64 z) (.slice ax n cx) (.string r)) := XX.out.below hb
      replace TD : Hid (Num wr af LL NI) := TD.out.below hb
      clear hlt hk HI
      clear RS RX XX TD XS
      go_wp2_with fail
      clear s1
      refine (AT0.out _ R1.out).mono ?_
      rintro e v9 ⟨⟨P0, hP0, rfl⟩, hb⟩
      replace A1 : Hid (Below w.heap.size w v9) := A1.out.trans (hb.mono A1.out.size)
      replace R1 : Hid (IsRow .u8 v9 a1 l1 c1 zs1) := isRow_belowS R1.out hb
      replace H1 : Hid (Code8 v9 a1 l1 z1) := H1.out.below hb
      replace HT : Hid (Tabs v9) := HT.out.below hb
      have HP0 : Hid (P0 < 16) := hP0
      clear hb hP0 AT0
      go_wp2_with fail
      refine (AT1.out _ R1.out).mono ?_
      rintro e v10 ⟨⟨V0, hV0, rfl⟩, hb⟩
      replace A1 : Hid (Below w.heap.size w v10) := A1.out.trans (hb.mono A1.out.size)
      replace R1 : Hid (IsRow .u8 v10 a1 l1 c1 zs1) := isRow_belowS R1.out hb
      replace H1 : Hid (Code8 v10 a1 l1 z1) := H1.out.below hb
      replace HT : Hid (Tabs v10) := HT.out.below hb
      clear hb AT1
      obtain ⟨V1, hV1⟩ : ∃ x, x = 1 + V0 := ⟨_, rfl⟩
      obtain ⟨V2, hV2⟩ : ∃ x, x = V1 + 1 := ⟨_, rfl⟩
      have e1 : (1 : Int) + (V0 : Int) = (V1 : Int) := by omega
      have w1 : IntKind.i64.wrap (V1 : Int) = (V1 : Int) := IntWalk.i64_in _ (by omega)
      have w2 : IntKind.i64.wrap (V2 : Int) = (V2 : Int) := IntWalk.i64_in _ (by omega)
      have HVV : Hid ((1 ≤ V1 ∧ V1 ≤ 1000) ∧ V2 = V1 + 1) := ⟨by omega, hV2⟩
      have e2 : (V1 : Int) + 1 = (V2 : Int) := by omega
      clear hV0 hV1 hV2
      go_wp2_with fail
      refine (DT.out _ H1.out).mono ?_
      rintro e v11 ⟨⟨s, hs, rfl⟩, hb⟩
      replace A1 : Hid (Below w.heap.size w v11) := A1.out.trans (hb.mono A1.out.size)
      replace R1 : Hid (IsRow .u8 v11 a1 l1 c1 zs1) := isRow_belowS R1.out hb
      replace H1 : Hid (Code8 v11 a1 l1 z1) := H1.out.below hb
      replace HT : Hid (Tabs v11) := HT.out.below hb
      clear hb DT
      obtain ⟨pce, hpce⟩ : ∃ x : ByteArray, x = ⟨#[112, 105, 101, 99, 101]⟩ ++ s := ⟨_, rfl⟩
      have psz : 1 ≤ pce.size ∧ pce.size ≤ 64 := by rw [hpce, ByteArray.size_append]; have : (⟨#[112, 105, 101, 99, 101]⟩ : ByteArray).size = 5 := rfl; omega
      have KO : Hid (∀ w : World, Calls Tryz.prog 14 #[] w fun e w' => e = .returned (.string keyT) ∧ Below w.heap.size w w') := keyOf_any
      have ksz := keyT_size
      generalize keyT = K at *
      have pf1 : PfP K (P0 : Int) (V1 : Int) pce 0 := .inr (.inr (.inr ⟨rfl, by omega, ksz, by have := HP0.out; omega, by have := HVV.out; omega⟩))
      have hT : (pcSeal K P0 V1 pce).size ≤ 80 := by unfold pcSeal; rw [kstr_size]; omega
      have pf2 : PfP K (P0 : Int) (V1 : Int) (pcSeal K P0 V1 pce) 0 := .inr (.inr (.inr ⟨rfl, by omega, ksz, by have := HP0.out; omega, by have := HVV.out; omega⟩))
      have sp : SpIs K (P0 : Int) (V1 : Int) pce (pcSeal K P0 V1 pce) 0 := .inr (.inr ⟨pf1, psz, rfl, rfl⟩)
      have op : OpIs K (P0 : Int) (V1 : Int) (pcSeal K P0 V1 pce) pce 0 := .inr (.inr ⟨pf2, opn_seal K P0 V1 pce psz, rfl⟩)
      generalize pcSeal K P0 V1 pce = T at *
      obtain ⟨X, cd, ox⟩ := OpIs.ex K (P0 : Int) (V2 : Int) T
      have SE : Hid (∀ u : World, Tabs u → Calls Tryz.prog 13 #[.string K, .int .i64 (P0 : Int), .int .i64 (V1 : Int), .string pce] u fun e w' => e = .returned (.tuple #[.string T, .int .i64 0]) ∧ Below u.heap.size u w') := fun u h => implSealP_any K _ _ pce T 0 sp u h
      have SM : Hid (∀ u : World, Calls Tryz.prog 15 #[.string K, .int .i64 (P0 : Int), .int .i64 (V1 : Int), .string pce] u fun e w' => e = .returned (.tuple #[.string T, .int .i64 0]) ∧ Below u.heap.size u w') := fun u => specSealP_any K _ _ pce T 0 sp u
      have OP : Hid (∀ u : World, Tabs u → Calls Tryz.prog 16 #[.string K, .int .i64 (P0 : Int), .int .i64 (V1 : Int), .string T] u fun e w' => e = .returned (.tuple #[.string pce, .int .i64 0]) ∧ Below u.heap.size u w') := fun u h => implOpenP_any K _ _ T pce 0 op u h
      have OX : Hid (∀ u : World, Tabs u → Calls Tryz.prog 16 #[.string K, .int .i64 (P0 : Int), .int .i64 (V2 : Int), .string T] u fun e w' => e = .returned (.tuple #[.string X, .int .i64 cd]) ∧ Below u.heap.size u w') := fun u h => implOpenP_any K _ _ T X cd ox u h
      have OM : Hid (∀ u : World, Calls Tryz.prog 17 #[.string K, .int .i64 (P0 : Int), .int .i64 (V2 : Int), .string T] u fun e w' => e = .returned (.tuple #[.string X, .int .i64 cd]) ∧ Below u.heap.size u w') := fun u => specOpenP_any K _ _ T X cd ox u
      clear pf1 pf2 sp op ox ksz hT psz
      have hpc := hpce.symm
      have p5 : (⟨#[112, 105, 101, 99, 101]⟩ : ByteArray).size = 5 := rfl
      clear hpce
      go_wp2_with fail
      refine (KO.out _).mono ?_
      rintro e v12 ⟨rfl, hb⟩
      replace A1 : Hid (Below w.heap.size w v12) := A1.out.trans (hb.mono A1.out.size)
      replace R1 : Hid (IsRow .u8 v12 a1 l1 c1 zs1) := isRow_belowS R1.out hb
      replace H1 : Hid (Code8 v12 a1 l1 z1) := H1.out.below hb
      replace HT : Hid (Tabs v12) := HT.out.below hb
      clear hb 
      go_wp2_with fail
      refine Calls.mono (SE.out _ HT.out) ?_
      rintro e v13 ⟨rfl, hb⟩
      replace A1 : Hid (Below w.heap.size w v13) := A1.out.trans (hb.mono A1.out.size)
      replace R1 : Hid (IsRow .u8 v13 a1 l1 c1 zs1) := isRow_belowS R1.out hb
      replace H1 : Hid (Code8 v13 a1 l1 z1) := H1.out.below hb
      replace HT : Hid (Tabs v13) := HT.out.below hb
      clear hb SE
      go_wp2_with fail
      refine (KO.out _).mono ?_
      rintro e v14 ⟨rfl, hb⟩
      replace A1 : Hid (Below w.heap.size w v14) := A1.out.trans (hb.mono A1.out.size)
      replace R1 : Hid (IsRow .u8 v14 a1 l1 c1 zs1) := isRow_belowS R1.out hb
      replace H1 : Hid (Code8 v14 a1 l1 z1) := H1.out.below hb
      replace HT : Hid (Tabs v14) := HT.out.below hb
      clear hb 
      go_wp2_with fail
      refine Calls.mono (SM.out _) ?_
      rintro e v15 ⟨rfl, hb⟩
      replace A1 : Hid (Below w.heap.size w v15) := A1.out.trans (hb.mono A1.out.size)
      replace R1 : Hid (IsRow .u8 v15 a1 l1 c1 zs1) := isRow_belowS R1.out hb
      replace H1 : Hid (Code8 v15 a1 l1 z1) := H1.out.below hb
      replace HT : Hid (Tabs v15) := HT.out.below hb
      clear hb SM
      go_wp2_with fail
      refine (KO.out _).mono ?_
      rintro e v16 ⟨rfl, hb⟩
      replace A1 : Hid (Below w.heap.size w v16) := A1.out.trans (hb.mono A1.out.size)
      replace R1 : Hid (IsRow .u8 v16 a1 l1 c1 zs1) := isRow_belowS R1.out hb
      replace H1 : Hid (Code8 v16 a1 l1 z1) := H1.out.below hb
      replace HT : Hid (Tabs v16) := HT.out.below hb
      clear hb 
      go_wp2_with fail
      refine Calls.mono (OP.out _ HT.out) ?_
      rintro e v17 ⟨rfl, hb⟩
      replace A1 : Hid (Below w.heap.size w v17) := A1.out.trans (hb.mono A1.out.size)
      replace R1 : Hid (IsRow .u8 v17 a1 l1 c1 zs1) := isRow_belowS R1.out hb
      replace H1 : Hid (Code8 v17 a1 l1 z1) := H1.out.below hb
      replace HT : Hid (Tabs v17) := HT.out.below hb
      clear hb OP
      go_wp2_with fail
      refine (KO.out _).mono ?_
      rintro e v18 ⟨rfl, hb⟩
      replace A1 : Hid (Below w.heap.size w v18) := A1.out.trans (hb.mono A1.out.size)
      replace R1 : Hid (IsRow .u8 v18 a1 l1 c1 zs1) := isRow_belowS R1.out hb
      replace H1 : Hid (Code8 v18 a1 l1 z1) := H1.out.below hb
      replace HT : Hid (Tabs v18) := HT.out.below hb
      clear hb 
      go_wp2_with fail
      refine Calls.mono (OX.out _ HT.out) ?_
      rintro e v19 ⟨rfl, hb⟩
      replace A1 : Hid (Below w.heap.size w v19) := A1.out.trans (hb.mono A1.out.size)
      replace R1 : Hid (IsRow .u8 v19 a1 l1 c1 zs1) := isRow_belowS R1.out hb
      replace H1 : Hid (Code8 v19 a1 l1 z1) := H1.out.below hb
      replace HT : Hid (Tabs v19) := HT.out.below hb
      clear hb OX
      go_wp2_with fail
      refine (KO.out _).mono ?_
      rintro e v20 ⟨rfl, hb⟩
      replace A1 : Hid (Below w.heap.size w v20) := A1.out.trans (hb.mono A1.out.size)
      replace R1 : Hid (IsRow .u8 v20 a1 l1 c1 zs1) := isRow_belowS R1.out hb
      replace H1 : Hid (Code8 v20 a1 l1 z1) := H1.out.below hb
      replace HT : Hid (Tabs v20) := HT.out.below hb
      clear hb 
      go_wp2_with fail
      refine Calls.mono (OM.out _) ?_
      rintro e v21 ⟨rfl, hb⟩
      replace A1 : Hid (Below w.heap.size w v21) := A1.out.trans (hb.mono A1.out.size)
      replace R1 : Hid (IsRow .u8 v21 a1 l1 c1 zs1) := isRow_belowS R1.out hb
      replace H1 : Hid (Code8 v21 a1 l1 z1) := H1.out.below hb
      replace HT : Hid (Tabs v21) := HT.out.below hb
      clear hb OM KO
      have t4 : (cd == cd) = true := by simp
      go_wp2
      go_ret
      exact ⟨rfl, A1.out⟩
end Go.Proofs.YtkmakpbphdjbcaaGreatDoor
