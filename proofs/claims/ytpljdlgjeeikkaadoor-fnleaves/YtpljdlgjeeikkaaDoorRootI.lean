/-
  RootOf of the program (written by tools/mkroot.py).
-/
import Derived.Test.YtpljdlgjeeikkaaDoorSideI
import Derived.Test.YtpljdlgjeeikkaaDoorBlkSum
import Derived.Test.YtpljdlgjeeikkaaDoorStrTo
namespace Go.Proofs.YtpljdlgjeeikkaaDoor
open Go.ChangeShapes Go.WideShapes Go.ChangeAt Go.RowKit
set_option linter.unusedVariables false
/-- The leaf and the proof are right. -/
def RfOk (x : Lf) (m : Nat) (P : Nat → ByteArray) : Prop := x.Ok ∧ ∀ i, i < m → (P i).size = 32
/-- There is such a place. -/
def RfIn (k n : Int) : Prop := (1 ≤ n ∧ n ≤ 32) ∧ (0 ≤ k ∧ k < n)
/-- What RootOf answers. -/
def RfA (x : Lf) (k n : Int) (m : Nat) (P : Nat → ByteArray) (r : ByteArray) (cd : Int) : Prop :=
  (4096 < m ∧ r = ⟨#[]⟩ ∧ cd = 2) ∨ (m ≤ 4096 ∧ ¬ RfOk x m P ∧ r = ⟨#[]⟩ ∧ cd = 1) ∨ (m ≤ 4096 ∧ RfOk x m P ∧ ¬ RfIn k n ∧ r = ⟨#[]⟩ ∧ cd = 4) ∨ (m ≤ 4096 ∧ RfOk x m P ∧ RfIn k n ∧ m ≠ lenT n.toNat k.toNat ∧ r = ⟨#[]⟩ ∧ cd = 3) ∨ (m ≤ 4096 ∧ RfOk x m P ∧ RfIn k n ∧ m = lenT n.toNat k.toNat ∧ r = upT (leafT x) n.toNat k.toNat P ∧ cd = 0)
theorem rfA_ex (x : Lf) (k n : Int) (m : Nat) (P : Nat → ByteArray) : ∃ r cd, RfA x k n m P r cd := by
  by_cases h1 : 4096 < m
  · exact ⟨_, _, .inl ⟨h1, rfl, rfl⟩⟩
  · by_cases h2 : RfOk x m P
    · by_cases h3 : RfIn k n
      · by_cases h4 : m = lenT n.toNat k.toNat
        · exact ⟨_, _, .inr (.inr (.inr (.inr ⟨by omega, h2, h3, h4, rfl, rfl⟩)))⟩
        · exact ⟨_, _, .inr (.inr (.inr (.inl ⟨by omega, h2, h3, h4, rfl, rfl⟩)))⟩
      · exact ⟨_, _, .inr (.inr (.inl ⟨by omega, h2, h3, rfl, rfl⟩))⟩
    · exact ⟨_, _, .inr (.inl ⟨by omega, h2, rfl, rfl⟩)⟩
theorem wrongRoot_any (s : ByteArray) (z : Bool) (hz : z = tB (¬ s.size = 32)) (w : World) :
    Calls Tryd.prog 31 #[.string s] w fun e w' => e = .returned (.bool z) ∧ w = w' := by
  by_cases h2 : s.size = 32
  · obtain rfl : z = false := by rw [hz]; exact tB_no (fun q => q h2)
    have e2 : ((s.size : Int) != 32) = false := by simp; omega
    clear hz h2
    go_enter Tryd.func31, Tryd.ntmps31
    go_wp2
    go_ret
    exact ⟨rfl, rfl⟩
  · obtain rfl : z = true := by rw [hz]; exact tB_yes h2
    have e2 : ((s.size : Int) != 32) = true := by simp; omega
    clear hz h2
    go_enter Tryd.func31, Tryd.ntmps31
    go_wp2
    go_ret
    exact ⟨rfl, rfl⟩
/-- The place of a wrong one, or -1. -/
def FoundR (m : Nat) (P : Nat → ByteArray) (e : Ending) : Prop := ∃ r : Int, e = .returned (.int .i64 r) ∧ (0 ≤ r ∧ (∃ i, i < m ∧ ¬ (P i).size = 32) ∨ r = -1 ∧ ∀ i, i < m → (P i).size = 32)
set_option maxRecDepth 100000 in
set_option maxHeartbeats 1000000 in
theorem indexSt_any (a : Option Addr) (n c : Nat) (P : Nat → ByteArray) (hn : n ≤ 1048576) (w : World) (h : Strs w a n P) :
    Calls Tryd.prog 48 #[.slice a n c, .func (.func 31) #[] #[]] w fun e w' => FoundR n P e ∧ w = w' := by
  have H : Hid (Strs w a n P) := h
  have WL : Hid (∀ (i : Nat) (w : World), Calls Tryd.prog 31 #[.string (P i)] w fun e w' => e = .returned (.bool (tB (¬ (P i).size = 32))) ∧ w = w') := fun i w => wrongRoot_any _ _ rfl w
  clear h
  go_enter Tryd.func48, Tryd.ntmps48
  go_wp2
  go_loopw [8] (fun i wr => ∃ k : Nat, k ≤ n ∧ i = .int .i64 k ∧ (∀ j, j < k → (P j).size = 32) ∧ w = wr) (fun i _ => n - (intOf i).toNat)
  case atStart => exact ⟨0, by omega, rfl, fun j hj => absurd hj (by omega), rfl⟩
  case round =>
    obtain ⟨k, hk, rfl, hok, rfl⟩ := hrel
    have HK : Hid (∀ j, j < k → (P j).size = 32) := hok
    clear hok
    by_cases hlt : k < n
    · have hlt' : (k : Int) < (n : Int) := by omega
      obtain ⟨b, off, rfl, hc⟩ := H.out.opened (by omega)
      have c0 := hc k hlt
      have WM := WL.out k
      by_cases ho : (P k).size = 32
      · rw [tB_no (fun q => q ho)] at WM
        have W1 : Hid _ := WM
        have HO : Hid ((P k).size = 32) := ho
        clear hc WM ho
        go_wp2_with fail
        refine (W1.out _).mono ?_
        rintro e w1 ⟨rfl, rfl⟩
        clear W1 c0
        go_wp2
        go_roundw
        case rel => exact ⟨k + 1, by omega, by go_num, fun j hj => by
          rcases Nat.lt_or_ge j k with q | q
          · exact HK.out j q
          · obtain rfl : j = k := by omega
            exact HO.out, trivial⟩
        case measure => simp [intOf]; omega
      · rw [tB_yes ho] at WM
        have W1 : Hid _ := WM
        have HF : Hid (FoundR n P (.returned (.int .i64 (k : Int)))) := ⟨k, rfl, .inl ⟨by omega, k, hlt, ho⟩⟩
        clear hc WM ho
        go_wp2_with fail
        refine (W1.out _).mono ?_
        rintro e w1 ⟨rfl, rfl⟩
        clear W1 c0
        go_wp2
        go_ret
        exact ⟨HF.out, rfl⟩
    · have hlt' : ¬ (k : Int) < (n : Int) := by omega
      have HF : Hid (FoundR n P (.returned (.int .i64 (-1)))) := ⟨-1, rfl, .inr ⟨rfl, fun j hj => HK.out j (by omega)⟩⟩
      go_wp2
      go_ret
      exact ⟨HF.out, rfl⟩
set_option maxRecDepth 100000 in
theorem containsSt_any (a : Option Addr) (n c : Nat) (P : Nat → ByteArray) (hn : n ≤ 1048576) (w : World) (h : Strs w a n P) (z : Bool) (hz : z = tB (∃ i, i < n ∧ ¬ (P i).size = 32)) :
    Calls Tryd.prog 30 #[.slice a n c, .func (.func 31) #[] #[]] w fun e w' => e = .returned (.bool z) ∧ w = w' := by
  have IX : Hid (Calls Tryd.prog 48 #[.slice a n c, .func (.func 31) #[] #[]] w fun e w' => FoundR n P e ∧ w = w') := indexSt_any a n c P hn w h
  have HZ : Hid (z = tB (∃ i, i < n ∧ ¬ (P i).size = 32)) := hz
  clear h hz
  go_enter Tryd.func30, Tryd.ntmps30
  go_wp2_with fail
  refine IX.out.mono ?_
  rintro e w1 ⟨⟨r, rfl, hr⟩, rfl⟩
  rcases hr with ⟨h0, h1⟩ | ⟨rfl, h1⟩
  · have HZ2 : Hid (z = true) := HZ.out.trans (tB_yes h1)
    clear h1
    go_wp2
    go_ret
    exact ⟨by rw [HZ2.out]; rfl, rfl⟩
  · have HZ2 : Hid (z = false) := HZ.out.trans (tB_no (fun ⟨i, hi, q⟩ => q (h1 i hi)))
    clear h1
    go_wp2
    go_ret
    exact ⟨by rw [HZ2.out]; rfl, rfl⟩
set_option maxRecDepth 100000 in
set_option maxHeartbeats 4000000 in
theorem implRf_any (x : Lf) (k n : Int) (a : Option Addr) (m c : Nat) (P : Nat → ByteArray) (r : ByteArray) (cd : Int) (hA : RfA x k n m P r cd) (hm : m ≤ 1048576) (w : World) (h : Strs w a m P) (ht : Tabs w) :
    Calls Tryd.prog 11 #[.agg #[.int .i64 x.v, .string x.h], .int .i64 k, .int .i64 n, .slice a m c] w fun e w' => e = .returned (.tuple #[.string r, .int .i64 cd]) ∧ Below w.heap.size w w' := by
  obtain ⟨WA, hWA⟩ : ∃ WA, WA = w.alloc (.cells #[.int .i64 x.v, .string x.h] 26) := ⟨_, rfl⟩
  have W1 : Hid (Below w.heap.size w (w.alloc (.cells #[.int .i64 x.v, .string x.h] 26))) := (Below.refl _ _).alloc (Nat.le_refl _) _
  have X1 : Hid (Box2 (w.alloc (.cells #[.int .i64 x.v, .string x.h] 26)) w.heap.size 26 (.int .i64 x.v) (.string x.h)) := Box2.made _ _ _ _
  have HS : Hid (Strs (w.alloc (.cells #[.int .i64 x.v, .string x.h] 26)) a m P) := h.below W1.out
  have HT : Hid (Tabs (w.alloc (.cells #[.int .i64 x.v, .string x.h] 26))) := ht.below W1.out
  clear h ht hWA WA
  have WL : Hid (∀ w : World, Calls Tryd.prog 29 #[.agg #[.int .i64 x.v, .string x.h]] w fun e w' => e = .returned (.bool (tB (¬ x.Ok))) ∧ Below w.heap.size w w') := fun w => wrongLeaf_any x _ rfl w
  have CF : Hid (∀ w : World, Strs w a m P → Calls Tryd.prog 30 #[.slice a m c, .func (.func 31) #[] #[]] w fun e w' => e = .returned (.bool (tB (∃ i, i < m ∧ ¬ (P i).size = 32))) ∧ w = w') := fun w h => containsSt_any a m c P hm w h _ rfl
  rcases hA with ⟨h1, rfl, rfl⟩ | ⟨h1, h2, rfl, rfl⟩ | hA
  · have e1 : (4096 : Int) < (m : Int) := by omega
    clear WL CF h1
    go_enter Tryd.func11, Tryd.ntmps11
    go_wp2
    go_ret2
    exact ⟨rfl, W1.out⟩
  · have e1 : ¬ (4096 : Int) < (m : Int) := by omega
    by_cases hx : x.Ok
    · have hp : ∃ i, i < m ∧ ¬ (P i).size = 32 := Classical.byContradiction fun q => h2 ⟨hx, fun i hi => Classical.byContradiction fun q2 => q ⟨i, hi, q2⟩⟩
      rw [tB_no (fun q => q hx)] at WL
      rw [tB_yes hp] at CF
      clear h2 hx hp
      go_enter Tryd.func11, Tryd.ntmps11
      have k0 := X1.out.c0
      have k1 := X1.out.c1
      go_wp2_with fail
      clear k0 k1
      generalize (w.alloc (.cells #[.int .i64 x.v, .string x.h] 26)) = v0 at *
      refine (WL.out _).mono ?_
      rintro e v1 ⟨rfl, hb⟩
      have W2 : Hid (Below w.heap.size w v1) := W1.out.trans (hb.mono W1.out.size)
      have HS2 : Hid (Strs v1 a m P) := HS.out.below hb
      clear hb W1 HS X1 HT WL
      go_wp2_with fail
      refine (CF.out _ HS2.out).mono ?_
      rintro e _ ⟨rfl, rfl⟩
      clear HS2 CF
      go_wp2
      go_ret2
      exact ⟨rfl, W2.out⟩
    · rw [tB_yes hx] at WL
      clear h2 hx
      go_enter Tryd.func11, Tryd.ntmps11
      have k0 := X1.out.c0
      have k1 := X1.out.c1
      go_wp2_with fail
      clear k0 k1
      generalize (w.alloc (.cells #[.int .i64 x.v, .string x.h] 26)) = v0 at *
      refine (WL.out _).mono ?_
      rintro e v1 ⟨rfl, hb⟩
      have W2 : Hid (Below w.heap.size w v1) := W1.out.trans (hb.mono W1.out.size)
      clear hb W1 HS X1 HT WL CF
      go_wp2
      go_ret2
      exact ⟨rfl, W2.out⟩
  have hok : RfOk x m P := by rcases hA with ⟨_, h, _⟩ | ⟨_, h, _⟩ | ⟨_, h, _⟩ <;> exact h
  have hm2 : m ≤ 4096 := by rcases hA with ⟨h, _⟩ | ⟨h, _⟩ | ⟨h, _⟩ <;> exact h
  rw [tB_no (fun q => q hok.1)] at WL
  rw [tB_no (fun ⟨i, hi, q⟩ => q (hok.2 i hi))] at CF
  have e1 : ¬ (4096 : Int) < (m : Int) := by omega
  rcases hA with ⟨-, -, h3, rfl, rfl⟩ | hA
  · by_cases g1 : n ≤ 32
    · have IN : Hid (∀ w : World, Calls Tryd.prog 25 #[.int .i64 k, .int .i64 n] w fun e w' => e = .returned (.bool false) ∧ w = w') := fun w => within_any k n false (by simp; intro q1; have : ¬ (k < n) := fun q2 => h3 ⟨⟨by omega, g1⟩, q1, q2⟩; omega) w
      have e2 : ¬ (32 : Int) < n := by omega
      clear h3 hok
      go_enter Tryd.func11, Tryd.ntmps11
      have k0 := X1.out.c0
      have k1 := X1.out.c1
      go_wp2_with fail
      clear k0 k1
      generalize (w.alloc (.cells #[.int .i64 x.v, .string x.h] 26)) = v0 at *
      refine (WL.out _).mono ?_
      rintro e v1 ⟨rfl, hb⟩
      have W2 : Hid (Below w.heap.size w v1) := W1.out.trans (hb.mono W1.out.size)
      have HS2 : Hid (Strs v1 a m P) := HS.out.below hb
      clear hb W1 HS X1 HT WL
      go_wp2_with fail
      refine (CF.out _ HS2.out).mono ?_
      rintro e _ ⟨rfl, rfl⟩
      clear HS2 CF
      go_wp2_with fail
      refine (IN.out _).mono ?_
      rintro e _ ⟨rfl, rfl⟩
      clear IN
      go_wp2
      go_ret2
      exact ⟨rfl, W2.out⟩
    · have e2 : (32 : Int) < n := by omega
      clear h3 hok
      go_enter Tryd.func11, Tryd.ntmps11
      have k0 := X1.out.c0
      have k1 := X1.out.c1
      go_wp2_with fail
      clear k0 k1
      generalize (w.alloc (.cells #[.int .i64 x.v, .string x.h] 26)) = v0 at *
      refine (WL.out _).mono ?_
      rintro e v1 ⟨rfl, hb⟩
      have W2 : Hid (Below w.heap.size w v1) := W1.out.trans (hb.mono W1.out.size)
      have HS2 : Hid (Strs v1 a m P) := HS.out.below hb
      clear hb W1 HS X1 HT WL
      go_wp2_with fail
      refine (CF.out _ HS2.out).mono ?_
      rintro e _ ⟨rfl, rfl⟩
      clear HS2 CF
      go_wp2
      go_ret2
      exact ⟨rfl, W2.out⟩
  have hin : RfIn k n := by rcases hA with ⟨_, _, h, _⟩ | ⟨_, _, h, _⟩ <;> exact h
  obtain ⟨⟨n1, n2⟩, k1, k2⟩ := hin
  obtain ⟨N, rfl⟩ : ∃ N : Nat, n = (N : Int) := ⟨n.toNat, by omega⟩
  obtain ⟨K, rfl⟩ : ∃ K : Nat, k = (K : Int) := ⟨k.toNat, by omega⟩
  rw [Int.toNat_natCast, Int.toNat_natCast] at hA
  have IN : Hid (∀ w : World, Calls Tryd.prog 25 #[.int .i64 (K : Int), .int .i64 (N : Int)] w fun e w' => e = .returned (.bool true) ∧ w = w') := fun w => within_any K N true (by simp; omega) w
  have e2 : ¬ (32 : Int) < (N : Int) := by omega
  have BS : Hid (∀ w : World, Calls Tryd.prog 26 #[.int .i64 (K : Int), .agg #[.int .i64 0, .int .i64 (N : Int)]] w fun e w' => RetSp (sideT 0 N K) w.heap.size e w' ∧ Below w.heap.size w w') := fun w => besides_any N 0 N K (by omega) (by omega) (by omega) (by omega) w
  have sl : (sideT 0 N K).length = lenT N K := side_len (p := 0) (q := N) (k := K) (n := N) (by omega) (by omega) (by omega)
  have su := side_up (leafT x) P (p := 0) (q := N) (k := K) (n := N) (by omega) (by omega) (by omega)
  rw [Nat.sub_zero] at su
  have LR : Hid (∀ w : World, Tabs w → Calls Tryd.prog 32 #[.agg #[.int .i64 x.v, .string x.h]] w fun e w' => e = .returned (.string (leafT x)) ∧ Below w.heap.size w w') := fun w ht => leafRoot_any x hok.1 w ht
  have hls : (leafT x).size = 32 := hashT_size _
  have HP : Hid (∀ i, i < m → (P i).size = 32) := hok.2
  clear hok n1 n2 k1 k2
  generalize leafT x = RH at *
  have hlm : lenT N K ≤ N := lenT_le
  generalize lenT N K = M at *
  generalize sideT 0 N K = SL at *
  rcases hA with ⟨-, -, -, h4, rfl, rfl⟩ | ⟨-, -, -, rfl, hr, rfl⟩
  · have ne : ((m : Int) != (SL.length : Int)) = true := by simp; omega
    clear su hls HP LR sl h4
    go_enter Tryd.func11, Tryd.ntmps11
    have k0 := X1.out.c0
    have k1 := X1.out.c1
    go_wp2_with fail
    clear k0 k1
    generalize (w.alloc (.cells #[.int .i64 x.v, .string x.h] 26)) = v0 at *
    refine (WL.out _).mono ?_
    rintro e v1 ⟨rfl, hb⟩
    have W2 : Hid (Below w.heap.size w v1) := W1.out.trans (hb.mono W1.out.size)
    have HS2 : Hid (Strs v1 a m P) := HS.out.below hb
    clear hb W1 HS X1 HT WL
    go_wp2_with fail
    refine (CF.out _ HS2.out).mono ?_
    rintro e _ ⟨rfl, rfl⟩
    clear HS2 CF
    go_wp2_with fail
    refine (IN.out _).mono ?_
    rintro e _ ⟨rfl, rfl⟩
    clear IN
    go_wp2_with fail
    refine (BS.out _).mono ?_
    rintro e v2 ⟨⟨sa, sc, rfl, ho⟩, hb⟩
    have W3 : Hid (Below w.heap.size w v2) := W2.out.trans (hb.mono W2.out.size)
    clear hb ho W2 BS
    go_wp2
    go_ret2
    exact ⟨rfl, W3.out⟩
  · have SU : Hid (stepT K P (entS SL) RH SL.length = r) := by show _ = _; rw [sl, su, hr]
    subst sl
    have NR : Hid (∀ (i : Nat) (w : World), i < SL.length → Tabs w → (K < (entS SL i).2 → Calls Tryd.prog 33 #[.string (stepT K P (entS SL) RH i), .string (P i)] w fun e w' => e = .returned (.string (stepT K P (entS SL) RH (i + 1))) ∧ Below w.heap.size w w') ∧ (¬ K < (entS SL i).2 → Calls Tryd.prog 33 #[.string (P i), .string (stepT K P (entS SL) RH i)] w fun e w' => e = .returned (.string (stepT K P (entS SL) RH (i + 1))) ∧ Below w.heap.size w w')) := fun i w hi ht => by
      have h1 := HP.out i hi
      have h2 := stepT_size K P (entS SL) RH hls i
      refine ⟨fun q => ?_, fun q => ?_⟩
      · have := nodeRoot_any (stepT K P (entS SL) RH i) (P i) (by omega) (by omega) w ht
        rwa [show nodeT (stepT K P (entS SL) RH i) (P i) = stepT K P (entS SL) RH (i + 1) from (if_neg (by omega)).symm] at this
      · have := nodeRoot_any (P i) (stepT K P (entS SL) RH i) (by omega) (by omega) w ht
        rwa [show nodeT (P i) (stepT K P (entS SL) RH i) = stepT K P (entS SL) RH (i + 1) from (if_pos (by omega)).symm] at this
    have S0 : Hid (stepT K P (entS SL) RH 0 = RH) := rfl
    generalize stepT K P (entS SL) RH = ST at *
    have ne : ((SL.length : Int) != (SL.length : Int)) = false := by simp
    clear su hls HP hr
    go_enter Tryd.func11, Tryd.ntmps11
    have k0 := X1.out.c0
    have k1 := X1.out.c1
    go_wp2_with fail
    clear k0 k1
    generalize (w.alloc (.cells #[.int .i64 x.v, .string x.h] 26)) = v0 at *
    obtain ⟨pb, hpb⟩ : ∃ z, z = w.heap.size := ⟨_, rfl⟩
    rw [← hpb] at X1 ⊢
    clear hpb
    refine (WL.out _).mono ?_
    rintro e v1 ⟨rfl, hb⟩
    replace W1 : Hid (Below w.heap.size w v1) := W1.out.trans (hb.mono W1.out.size)
    replace HS : Hid (Strs v1 a SL.length P) := HS.out.below hb
    replace HT : Hid (Tabs v1) := HT.out.below hb
    replace X1 : Hid (Box2 v1 pb 26 (.int .i64 x.v) (.string x.h)) := X1.out.below hb
    clear hb WL
    go_wp2_with fail
    refine (CF.out _ HS.out).mono ?_
    rintro e _ ⟨rfl, rfl⟩
    clear CF
    go_wp2_with fail
    refine (IN.out _).mono ?_
    rintro e _ ⟨rfl, rfl⟩
    clear IN
    go_wp2_with fail
    refine (BS.out _).mono ?_
    rintro e v2 ⟨⟨sa, sc, rfl, ho⟩, hb⟩
    replace W1 : Hid (Below w.heap.size w v2) := W1.out.trans (hb.mono W1.out.size)
    replace HS : Hid (Strs v2 a SL.length P) := HS.out.below hb
    replace HT : Hid (Tabs v2) := HT.out.below hb
    replace X1 : Hid (Box2 v2 pb 26 (.int .i64 x.v) (.string x.h)) := X1.out.below hb
    have SE : Hid (Els v2 2 sa SL.length (spF (entS SL))) := ho.els
    clear hb ho BS
    have k0 := X1.out.c0
    have k1 := X1.out.c1
    go_wp2_with fail
    clear k0 k1
    refine (LR.out _ HT.out).mono ?_
    rintro e v3 ⟨rfl, hb⟩
    replace W1 : Hid (Below w.heap.size w v3) := W1.out.trans (hb.mono W1.out.size)
    replace HS : Hid (Strs v3 a SL.length P) := HS.out.below hb
    replace HT : Hid (Tabs v3) := HT.out.below hb
    replace SE : Hid (Els v3 2 sa SL.length (spF (entS SL))) := SE.out.below hb
    clear hb X1 LR ne
    go_wp2
    go_loopw [11, 44] (fun rt i wr => ∃ q : Nat, q ≤ SL.length ∧ i = .int .i64 q ∧ rt = .string (ST q) ∧ Below v3.heap.size v3 wr) (fun _ i _ => SL.length - (intOf i).toNat)
    case atStart => exact ⟨0, by omega, rfl, by rw [S0.out], Below.refl _ _⟩
    case round =>
      clear S0
      obtain ⟨q, hq, rfl, rfl, hb⟩ := hrel
      have HB : Hid (Below v3.heap.size v3 wr) := hb
      by_cases hlt : q < SL.length
      · have hlt' : (q : Int) < (SL.length : Int) := by omega
        obtain ⟨pa, po, rfl, hp⟩ := HS.out.opened (by omega)
        obtain ⟨sb, so, rfl, hs⟩ := SE.out.opened (by omega)
        have p0 := hp q hlt
        obtain ⟨s0, s1⟩ := Els.spC hs q hlt
        have P0 : Hid (v3.cell? ⟨pa, po + q, none⟩ = some (.string (P q))) := p0
        have t0 : wr.cell? ⟨sb, so + q * 2, none⟩ = some (.int .i64 ((entS SL q).1 : Int)) := by rw [hb.cell (strBlock s0)]; exact s0
        have t1 : wr.cell? ⟨sb, so + q * 2 + 1, none⟩ = some (.int .i64 ((entS SL q).2 : Int)) := by rw [hb.cell (strBlock s1)]; exact s1
        have NQ := fun w => NR.out q w hlt
        generalize (entS SL q).1 = f1 at *
        generalize (entS SL q).2 = f2 at *
        have WB : Below wr.heap.size wr (wr.alloc (.cells #[.int .i64 (f1 : Int), .int .i64 (f2 : Int)] 52)) := (Below.refl _ _).alloc (Nat.le_refl _) _
        have B2 : Hid (Below v3.heap.size v3 (wr.alloc (.cells #[.int .i64 (f1 : Int), .int .i64 (f2 : Int)] 52))) := hb.trans (WB.mono hb.size)
        have pq : (wr.alloc (.cells #[.int .i64 (f1 : Int), .int .i64 (f2 : Int)] 52)).cell? ⟨pa, po + q, none⟩ = some (.string (P q)) := by rw [B2.out.cell (strBlock P0.out)]; exact P0.out
        have NQ2 : Hid _ := NQ
        clear hp hs p0 s0 s1 hb WB HB P0 NQ
        by_cases hf : K < f2
        · have hf' : ¬ (f2 : Int) ≤ (K : Int) := by omega
          go_wp2_with fail
          generalize (wr.alloc (.cells #[.int .i64 (f1 : Int), .int .i64 (f2 : Int)] 52)) = v4 at *
          refine ((NQ2.out _ (HT.out.below B2.out)).1 hf).mono ?_
          rintro e v5 ⟨rfl, hb⟩
          have B3 : Hid (Below v3.heap.size v3 v5) := B2.out.trans (hb.mono B2.out.size)
          clear hb B2 NQ2 pq t0 t1
          go_wp2
          go_roundw
          case rel => exact ⟨q + 1, by omega, by go_num, rfl, B3.out⟩
          case measure => simp [intOf]; omega
        · have hf' : (f2 : Int) ≤ (K : Int) := by omega
          go_wp2_with fail
          generalize (wr.alloc (.cells #[.int .i64 (f1 : Int), .int .i64 (f2 : Int)] 52)) = v4 at *
          refine ((NQ2.out _ (HT.out.below B2.out)).2 hf).mono ?_
          rintro e v5 ⟨rfl, hb⟩
          have B3 : Hid (Below v3.heap.size v3 v5) := B2.out.trans (hb.mono B2.out.size)
          clear hb B2 NQ2 pq t0 t1
          go_wp2
          go_roundw
          case rel => exact ⟨q + 1, by omega, by go_num, rfl, B3.out⟩
          case measure => simp [intOf]; omega
      · have hlt' : ¬ (q : Int) < (SL.length : Int) := by omega
        obtain rfl : q = SL.length := by omega
        have B3 : Hid (Below w.heap.size w wr) := W1.out.trans (hb.mono W1.out.size)
        have RR : Hid (ST SL.length = r) := SU.out
        generalize ST SL.length = RT at *
        clear hb HB NR SE HS HT SU
        go_wp2
        go_ret2
        exact ⟨by rw [← RR.out]; rfl, B3.out⟩
end Go.Proofs.YtpljdlgjeeikkaaDoor
