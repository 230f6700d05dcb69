/-
  RootOf of the model.
-/
import Derived.Test.YtpljdlgjeeikkacDoorRootI
namespace Go.Proofs.YtpljdlgjeeikkacDoor
open Go.ChangeShapes Go.WideShapes Go.ChangeAt Go.RowKit
set_option linter.unusedVariables false
theorem st_elem : Tryd.prog.elem 24 = 9 := by kernel_rfl
theorem st_under : Tryd.prog.underlying 24 = some (.slice (Tryd.prog.elem 24)) := by rw [st_elem]; exact Tryd.underlying24
theorem st_info : (Tryd.prog.info? 9).map (fun i => (i.zero, i.size, i.bytes)) = some (some (.string ⟨#[]⟩), 1, 16) := by kernel_rfl
theorem st_sizeOf (w : World) : (sizeOf (Tryd.prog.elem 24)).run Tryd.prog w = .ok 1 w := by
  obtain ⟨i, hi, hz, hsz, hby⟩ := info_parts st_info
  simp [sizeOf, typeInfo, st_elem, hi, hsz]
theorem Strs.less {w : World} {a : Option Addr} {n m : Nat} {f : Nat → ByteArray} (h : Strs w a n f) (hm : m ≤ n) : Strs w a m f := fun i hi => h i (by omega)
/-- What h leads to, or that the proof is too short or too long. -/
def RetUp (h : ByteArray) (n K m : Nat) (P : Nat → ByteArray) (e : Ending) : Prop := ∃ (t : ByteArray) (z : Bool), e = .returned (.tuple #[.string t, .bool z]) ∧ t.size ≤ 32 ∧ (m = lenT n K → z = true ∧ t = upT h n K P) ∧ (m ≠ lenT n K → z = false)
set_option maxRecDepth 100000 in
set_option maxHeartbeats 4000000 in
theorem l10Up_any (h : ByteArray) (hh : h.size = 32) (n : Nat) : ∀ (K : Nat) (a : Option Addr) (m c : Nat) (P : Nat → ByteArray), 1 ≤ n → n ≤ 32 → K < n → m ≤ c → c ≤ maxLen → m ≤ 4096 → (∀ i, i < m → (P i).size = 32) → ∀ w : World, Strs w a m P →
    Calls Tryd.prog 30 #[.string h, .int .i64 (K : Int), .int .i64 (n : Int), .slice a m c] w fun e w' => RetUp h n K m P e ∧ Below w.heap.size w w' := by
  induction n using Nat.strongRecOn with
  | ind n ih =>
    intro K a m c P h1 h32 hK hc hcm hm hP w hS
    rcases (show n = 1 ∨ 2 ≤ n by omega) with rfl | hn
    · rcases Nat.eq_zero_or_pos m with rfl | hp
      · have HR : Hid (RetUp h 1 K 0 P (.returned (.tuple #[.string h, .bool true]))) := ⟨h, true, rfl, by omega, fun _ => ⟨rfl, by rw [upT_one _ _ _ _ (by omega)]⟩, fun q => absurd (lenT_one 1 K (by omega)).symm q⟩
        clear ih hS hP hh
        generalize RetUp h 1 K 0 P = RU at *
        go_enter Tryd.func30, Tryd.ntmps30
        go_wp2
        go_ret2
        exact ⟨HR.out, Below.refl _ _⟩
      · have HR : Hid (RetUp h 1 K m P (.returned (.tuple #[.string h, .bool false]))) := ⟨h, false, rfl, by omega, fun q => by rw [lenT_one 1 K (by omega)] at q; omega, fun q => rfl⟩
        have e0 : ((m : Int) == 0) = false := by simp; omega
        clear ih hS hP hh
        generalize RetUp h 1 K m P = RU at *
        go_enter Tryd.func30, Tryd.ntmps30
        go_wp2
        go_ret2
        exact ⟨HR.out, Below.refl _ _⟩
    · have n1 : ((n : Int) == 1) = false := by simp; omega
      rcases Nat.eq_zero_or_pos m with rfl | hp
      · have HR : Hid (RetUp h n K 0 P (.returned (.tuple #[.string ⟨#[]⟩, .bool false]))) := ⟨⟨#[]⟩, false, rfl, by show 0 ≤ 32; omega, fun q => by
          by_cases hk : K < gh n
          · rw [lenT_lo _ _ hn hk] at q; omega
          · rw [lenT_hi _ _ hn hk] at q; omega, fun q => rfl⟩
        clear ih hS hP hh
        generalize RetUp h n K 0 P = RU at *
        go_enter Tryd.func30, Tryd.ntmps30
        go_wp2
        go_ret2
        exact ⟨HR.out, Below.refl _ _⟩
      · have g1 := gh_lt hn
        have g0 := gh_pos (n := n) (by omega)
        obtain ⟨b, off, rfl, hcell⟩ := hS.opened hp
        obtain ⟨M, rfl⟩ : ∃ M, m = M + 1 := ⟨m - 1, by omega⟩
        have cl := hcell M (by omega)
        have SP : SlP (some ⟨b, off, none⟩) (M + 1) c := ⟨(fun e => by cases e), .inr ⟨b, off, rfl⟩, hc, hcm⟩
        have CT := run_cut_to (P := Tryd.prog) 24 st_under 1 st_sizeOf SP M (by omega)
        have e0 : (((M + 1 : Nat) : Int) == 0) = false := by simp; omega
        have em : ((M + 1 : Nat) : Int) - 1 = (M : Int) := by omega
        have lM : (M : Int) < ((M + 1 : Nat) : Int) := by omega
        obtain ⟨g, hg⟩ : ∃ g, g = gh n := ⟨_, rfl⟩
        have ek : ((n : Int) + 1) / 2 = (g : Int) := by rw [hg]; unfold gh; omega
        have lP : (P M).size = 32 := hP M (by omega)
        have LP : Hid ((P M).size ≤ 100) := by show _ ≤ _; omega
        by_cases hk : K < gh n
        · have kl : (K : Int) < (g : Int) := by omega
          have F1 : Hid (∀ w : World, Strs w (some ⟨b, off, none⟩) (M + 1) P → Calls Tryd.prog 30 #[.string h, .int .i64 (K : Int), .int .i64 (g : Int), .slice (some ⟨b, off, none⟩) M c] w fun e w' => RetUp h g K M P e ∧ Below w.heap.size w w') := fun w hs => ih g (by omega) K _ M c P (by omega) (by omega) (by omega) (by omega) hcm (by omega) (fun i hi => hP i (by omega)) w (hs.less (by omega))
          have HF : Hid (∀ (t : ByteArray) (z : Bool), (M = lenT g K → z = true ∧ t = upT h g K P) ∧ (M ≠ lenT g K → z = false) → RetUp h n K (M + 1) P (.returned (.tuple #[.string (nodeT t (P M)), .bool z]))) := fun t z ⟨q1, q2⟩ => by
            refine ⟨nodeT t (P M), z, rfl, by rw [show (nodeT t (P M)).size = 32 from hashT_size _]; omega, fun q => ?_, fun q => ?_⟩
            · rw [lenT_lo _ _ hn hk, ← hg] at q
              have := q1 (by omega)
              rw [upT_lo _ _ _ _ hn hk, ← hg, ← this.2]
              refine ⟨this.1, ?_⟩
              rw [show lenT g K = M from by omega]
            · rw [lenT_lo _ _ hn hk, ← hg] at q
              exact q2 (by omega)
          have ND : Hid (∀ (t : ByteArray) (w : World), t.size ≤ 32 → Calls Tryd.prog 42 #[.string t, .string (P M)] w fun e w' => e = .returned (.string (nodeT t (P M))) ∧ Below w.heap.size w w') := fun t w ht => l10Node_any t (P M) (by omega) LP.out w
          have HS : Hid (Strs w (some ⟨b, off, none⟩) (M + 1) P) := hS
          generalize RetUp h n K (M + 1) P = RU at *
          generalize P M = PM at *
          clear ih hS hP hh hcell SP hg hk g1 g0 lP LP
          go_enter Tryd.func30, Tryd.ntmps30
          go_wp2_with fail
          refine (F1.out _ HS.out).mono ?_
          rintro e w1 ⟨⟨t, z, rfl, ts, q1, q2⟩, hb⟩
          have B1 : Hid (Below w.heap.size w w1) := hb
          have Q : Hid _ := HF.out t z ⟨q1, q2⟩
          have TS : Hid (t.size ≤ 32) := ts
          clear hb q1 q2 F1 HS HF ts
          go_wp2_with fail
          refine (ND.out t _ TS.out).mono ?_
          rintro e w2 ⟨rfl, hb⟩
          have B2 : Hid (Below w.heap.size w w2) := B1.out.trans (hb.mono B1.out.size)
          generalize nodeT t PM = NT at *
          clear hb ND TS B1
          go_wp2
          go_ret2
          exact ⟨Q.out, B2.out⟩
        · have kl : ¬ (K : Int) < (g : Int) := by omega
          have e3 : (K : Int) - (g : Int) = ((K - g : Nat) : Int) := by omega
          have e4 : (n : Int) - (g : Int) = ((n - g : Nat) : Int) := by omega
          have F1 : Hid (∀ w : World, Strs w (some ⟨b, off, none⟩) (M + 1) P → Calls Tryd.prog 30 #[.string h, .int .i64 ((K - g : Nat) : Int), .int .i64 ((n - g : Nat) : Int), .slice (some ⟨b, off, none⟩) M c] w fun e w' => RetUp h (n - g) (K - g) M P e ∧ Below w.heap.size w w') := fun w hs => ih (n - g) (by omega) (K - g) _ M c P (by omega) (by omega) (by omega) (by omega) hcm (by omega) (fun i hi => hP i (by omega)) w (hs.less (by omega))
          have HF : Hid (∀ (t : ByteArray) (z : Bool), (M = lenT (n - g) (K - g) → z = true ∧ t = upT h (n - g) (K - g) P) ∧ (M ≠ lenT (n - g) (K - g) → z = false) → RetUp h n K (M + 1) P (.returned (.tuple #[.string (nodeT (P M) t), .bool z]))) := fun t z ⟨q1, q2⟩ => by
            refine ⟨nodeT (P M) t, z, rfl, by rw [show (nodeT (P M) t).size = 32 from hashT_size _]; omega, fun q => ?_, fun q => ?_⟩
            · rw [lenT_hi _ _ hn hk, ← hg] at q
              have := q1 (by omega)
              rw [upT_hi _ _ _ _ hn hk, ← hg, ← this.2]
              refine ⟨this.1, ?_⟩
              rw [show lenT (n - g) (K - g) = M from by omega]
            · rw [lenT_hi _ _ hn hk, ← hg] at q
              exact q2 (by omega)
          have ND : Hid (∀ (t : ByteArray) (w : World), t.size ≤ 32 → Calls Tryd.prog 42 #[.string (P M), .string t] w fun e w' => e = .returned (.string (nodeT (P M) t)) ∧ Below w.heap.size w w') := fun t w ht => l10Node_any (P M) t LP.out (by omega) w
          have HS : Hid (Strs w (some ⟨b, off, none⟩) (M + 1) P) := hS
          generalize RetUp h n K (M + 1) P = RU at *
          generalize P M = PM at *
          clear ih hS hP hh hcell SP hg hk g1 g0 lP LP
          generalize K - g = KG at *
          generalize n - g = NG at *
          go_enter Tryd.func30, Tryd.ntmps30
          go_wp2_with fail
          refine (F1.out _ HS.out).mono ?_
          rintro e w1 ⟨⟨t, z, rfl, ts, q1, q2⟩, hb⟩
          have B1 : Hid (Below w.heap.size w w1) := hb
          have Q : Hid _ := HF.out t z ⟨q1, q2⟩
          have TS : Hid (t.size ≤ 32) := ts
          clear hb q1 q2 F1 HS HF ts
          go_wp2_with fail
          refine (ND.out t _ TS.out).mono ?_
          rintro e w2 ⟨rfl, hb⟩
          have B2 : Hid (Below w.heap.size w w2) := B1.out.trans (hb.mono B1.out.size)
          generalize nodeT PM t = NT at *
          clear hb ND TS B1
          go_wp2
          go_ret2
          exact ⟨Q.out, B2.out⟩
set_option maxRecDepth 100000 in
set_option maxHeartbeats 4000000 in
theorem specRf_any (x : Lf) (k n : Int) (a : Option Addr) (m c : Nat) (P : Nat → ByteArray) (r : ByteArray) (cd : Int) (hA : RfA x k n m P r cd) (hm : m ≤ 1048576) (hc : m ≤ c) (hcm : c ≤ maxLen) (w : World) (h : Strs w a m P) :
    Calls Tryd.prog 16 #[.agg #[.int .i64 x.v, .string x.h], .int .i64 k, .int .i64 n, .slice a m c] w fun e w' => e = .returned (.tuple #[.string r, .int .i64 cd]) ∧ Below w.heap.size w w' := by
  have W1 : Hid (Below w.heap.size w (w.alloc (.cells #[.int .i64 x.v, .string x.h] 39))) := (Below.refl _ _).alloc (Nat.le_refl _) _
  have X1 : Hid (Box2 (w.alloc (.cells #[.int .i64 x.v, .string x.h] 39)) w.heap.size 39 (.int .i64 x.v) (.string x.h)) := Box2.made _ _ _ _
  have HS : Hid (Strs (w.alloc (.cells #[.int .i64 x.v, .string x.h] 39)) a m P) := h.below W1.out
  clear h
  have WL : Hid (∀ w : World, Calls Tryd.prog 29 #[.agg #[.int .i64 x.v, .string x.h]] w fun e w' => e = .returned (.bool (tB x.Ok)) ∧ Below w.heap.size w w') := fun w => l10Leaf_any x _ rfl w
  by_cases h1 : 4096 < m
  · obtain ⟨rfl, rfl⟩ : r = ⟨#[]⟩ ∧ cd = 2 := by
      rcases hA with ⟨_, h2, h3⟩ | ⟨q, _⟩ | ⟨q, _⟩ | ⟨q, _⟩ | ⟨q, _⟩
      · exact ⟨h2, h3⟩
      all_goals omega
    have e1 : (4096 : Int) < (m : Int) := by omega
    clear WL hA
    go_enter Tryd.func16, Tryd.ntmps16
    go_wp2
    go_ret2
    exact ⟨rfl, W1.out⟩
  have e1 : ¬ (4096 : Int) < (m : Int) := by omega
  by_cases hx : x.Ok
  · rw [tB_yes hx] at WL
    have HA : Hid (RfA x k n m P r cd) := hA
    have HX : Hid x.Ok := hx
    have LR : Hid (∀ w : World, Calls Tryd.prog 31 #[.agg #[.int .i64 x.v, .string x.h]] w fun e w' => e = .returned (.string (leafT x)) ∧ Below w.heap.size w w') := fun w => l10Hash_any x hx w
    clear hA hx
    go_enter Tryd.func16, Tryd.ntmps16
    have k0 := X1.out.c0
    have k1 := X1.out.c1
    go_wp2_with fail
    clear k0 k1
    generalize (w.alloc (.cells #[.int .i64 x.v, .string x.h] 39)) = v0 at *
    obtain ⟨pb, hpb⟩ : ∃ z, z = w.heap.size := ⟨_, rfl⟩
    rw [← hpb] at X1 ⊢
    clear hpb
    refine (WL.out _).mono ?_
    rintro e v1 ⟨rfl, hb⟩
    replace W1 : Hid (Below w.heap.size w v1) := W1.out.trans (hb.mono W1.out.size)
    replace HS : Hid (Strs v1 a m P) := HS.out.below hb
    replace X1 : Hid (Box2 v1 pb 39 (.int .i64 x.v) (.string x.h)) := X1.out.below hb
    clear hb WL
    go_wp2
    go_loopw [10] (fun i wr => ∃ q : Nat, q ≤ m ∧ i = .int .i64 q ∧ (∀ j, j < q → (P j).size = 32) ∧ v1 = wr) (fun i _ => m - (intOf i).toNat)
    case atStart => exact ⟨0, by omega, rfl, fun j hj => absurd hj (by omega), rfl⟩
    case round =>
      obtain ⟨q, hq, rfl, hok, rfl⟩ := hrel
      have HK : Hid (∀ j, j < q → (P j).size = 32) := hok
      clear hok
      by_cases hlt : q < m
      · have hlt' : (q : Int) < (m : Int) := by omega
        obtain ⟨b, off, rfl, hcell⟩ := HS.out.opened (by omega)
        have c0 := hcell q hlt
        by_cases ho : (P q).size = 32
        · have HO : Hid (∀ z, z = q → (P z).size = 32) := fun z ez => by rw [ez]; exact ho
          have e2 : (((P q).size : Int) != 32) = false := by simp; omega
          clear hcell ho
          generalize hPq : P q = PQ at *
          clear hPq
          go_wp2
          go_roundw
          case rel => exact ⟨q + 1, by omega, by go_num, fun j hj => by
            rcases Nat.lt_or_ge j q with z | z
            · exact HK.out j z
            · exact HO.out j (by omega), trivial⟩
          case measure => simp [intOf]; omega
        · obtain ⟨rfl, rfl⟩ : r = ⟨#[]⟩ ∧ cd = 1 := by
            rcases HA.out with ⟨z, _⟩ | ⟨_, _, h2, h3⟩ | ⟨_, z, _⟩ | ⟨_, z, _⟩ | ⟨_, z, _⟩
            · omega
            · exact ⟨h2, h3⟩
            all_goals exact absurd (z.2 q hlt) ho
          have e2 : (((P q).size : Int) != 32) = true := by simp; omega
          clear hcell ho
          generalize P q = PQ at *
          go_wp2
          go_ret2
          exact ⟨rfl, W1.out⟩
      · have hlt' : ¬ (q : Int) < (m : Int) := by omega
        have hP : ∀ i, i < m → (P i).size = 32 := fun i hi => HK.out i (by omega)
        have hrok : RfOk x m P := ⟨HX.out, hP⟩
        by_cases hn : 1 ≤ n ∧ n ≤ 32
        · have I1 : Hid (∀ w : World, Calls Tryd.prog 21 #[.int .i64 n, .int .i64 1, .int .i64 32] w fun e w' => e = .returned (.bool true) ∧ w = w') := fun w => in_any n 1 32 true (by simp; omega) w
          by_cases hk : 0 ≤ k ∧ k < n
          · have I2 : Hid (∀ w : World, Calls Tryd.prog 21 #[.int .i64 k, .int .i64 0, .int .i64 (n - 1)] w fun e w' => e = .returned (.bool true) ∧ w = w') := fun w => in_any k 0 (n - 1) true (by simp; omega) w
            obtain ⟨N, rfl⟩ : ∃ N : Nat, n = (N : Int) := ⟨n.toNat, by omega⟩
            obtain ⟨K, rfl⟩ : ∃ K : Nat, k = (K : Int) := ⟨k.toNat, by omega⟩
            have UP : Hid (∀ w : World, Strs w a m P → Calls Tryd.prog 30 #[.string (leafT x), .int .i64 (K : Int), .int .i64 (N : Int), .slice a m c] w fun e w' => RetUp (leafT x) N K m P e ∧ Below w.heap.size w w') := fun w hs => l10Up_any (leafT x) (hashT_size _) N K a m c P (by omega) (by omega) (by omega) hc hcm (by omega) hP w hs
            have AN : Hid (∀ (t : ByteArray) (z : Bool), (m = lenT N K → z = true ∧ t = upT (leafT x) N K P) ∧ (m ≠ lenT N K → z = false) → (z = true ∧ t = r ∧ cd = 0) ∨ (z = false ∧ r = ⟨#[]⟩ ∧ cd = 3)) := fun t z ⟨q1, q2⟩ => by
              rcases HA.out with ⟨y, _⟩ | ⟨_, y, _⟩ | ⟨_, _, y, _⟩ | ⟨_, _, _, y, h2, h3⟩ | ⟨_, _, _, y, h2, h3⟩
              · omega
              · exact absurd hrok y
              · exact absurd ⟨hn, hk⟩ y
              · rw [Int.toNat_natCast, Int.toNat_natCast] at y
                exact .inr ⟨q2 y, h2, h3⟩
              · rw [Int.toNat_natCast, Int.toNat_natCast] at y h2
                exact .inl ⟨(q1 y).1, by rw [(q1 y).2, h2], h3⟩
            have e5 : IntKind.i64.wrap ((N : Int) - 1) = (N : Int) - 1 := IntWalk.i64_in _ (by omega)
            generalize leafT x = LT at *
            clear hn hk hrok hP HK HX HA
            go_wp2_with fail
            refine (I1.out _).mono ?_
            rintro e _ ⟨rfl, rfl⟩
            go_wp2_with fail
            refine (I2.out _).mono ?_
            rintro e _ ⟨rfl, rfl⟩
            clear I1 I2 e5
            have k0 := X1.out.c0
            have k1 := X1.out.c1
            go_wp2_with fail
            clear k0 k1
            refine (LR.out _).mono ?_
            rintro e v2 ⟨rfl, hb⟩
            replace W1 : Hid (Below w.heap.size w v2) := W1.out.trans (hb.mono W1.out.size)
            replace HS : Hid (Strs v2 a m P) := HS.out.below hb
            clear hb X1 LR
            go_wp2_with fail
            refine (UP.out _ HS.out).mono ?_
            rintro e v3 ⟨⟨t, z, rfl, _, q1, q2⟩, hb⟩
            replace W1 : Hid (Below w.heap.size w v3) := W1.out.trans (hb.mono W1.out.size)
            rcases AN.out t z ⟨q1, q2⟩ with ⟨rfl, rfl, rfl⟩ | ⟨rfl, rfl, rfl⟩
            · clear hb HS q1 q2 AN UP
              go_wp2
              go_ret2
              exact ⟨rfl, W1.out⟩
            · clear hb HS q1 q2 AN UP
              go_wp2
              go_ret2
              exact ⟨rfl, W1.out⟩
          · have I2 : Hid (∀ w : World, Calls Tryd.prog 21 #[.int .i64 k, .int .i64 0, .int .i64 (n - 1)] w fun e w' => e = .returned (.bool false) ∧ w = w') := fun w => in_any k 0 (n - 1) false (by simp; omega) w
            obtain ⟨rfl, rfl⟩ : r = ⟨#[]⟩ ∧ cd = 4 := by
              rcases HA.out with ⟨y, _⟩ | ⟨_, y, _⟩ | ⟨_, _, y, h2, h3⟩ | ⟨_, _, y, _⟩ | ⟨_, _, y, _⟩
              · omega
              · exact absurd hrok y
              · exact ⟨h2, h3⟩
              all_goals exact absurd y.2 hk
            have e5 : IntKind.i64.wrap (n - 1) = n - 1 := IntWalk.i64_in _ (by omega)
            clear hn hk hrok hP HK HX HA LR X1 HS
            go_wp2_with fail
            refine (I1.out _).mono ?_
            rintro e _ ⟨rfl, rfl⟩
            go_wp2_with fail
            refine (I2.out _).mono ?_
            rintro e _ ⟨rfl, rfl⟩
            clear I1 I2 e5
            go_wp2
            go_ret2
            exact ⟨rfl, W1.out⟩
        · have I1 : Hid (∀ w : World, Calls Tryd.prog 21 #[.int .i64 n, .int .i64 1, .int .i64 32] w fun e w' => e = .returned (.bool false) ∧ w = w') := fun w => in_any n 1 32 false (by simp; omega) w
          obtain ⟨rfl, rfl⟩ : r = ⟨#[]⟩ ∧ cd = 4 := by
            rcases HA.out with ⟨y, _⟩ | ⟨_, y, _⟩ | ⟨_, _, y, h2, h3⟩ | ⟨_, _, y, _⟩ | ⟨_, _, y, _⟩
            · omega
            · exact absurd hrok y
            · exact ⟨h2, h3⟩
            all_goals exact absurd y.1 hn
          clear hn hrok hP HK HX HA LR X1 HS
          go_wp2_with fail
          refine (I1.out _).mono ?_
          rintro e _ ⟨rfl, rfl⟩
          clear I1
          go_wp2
          go_ret2
          exact ⟨rfl, W1.out⟩
  · rw [tB_no hx] at WL
    obtain ⟨rfl, rfl⟩ : r = ⟨#[]⟩ ∧ cd = 1 := by
      rcases hA with ⟨z, _⟩ | ⟨_, _, h2, h3⟩ | ⟨_, z, _⟩ | ⟨_, z, _⟩ | ⟨_, z, _⟩
      · omega
      · exact ⟨h2, h3⟩
      all_goals exact absurd z.1 hx
    clear hA hx
    go_enter Tryd.func16, Tryd.ntmps16
    have k0 := X1.out.c0
    have k1 := X1.out.c1
    go_wp2_with fail
    clear k0 k1
    generalize (w.alloc (.cells #[.int .i64 x.v, .string x.h] 39)) = v0 at *
    refine (WL.out _).mono ?_
    rintro e v1 ⟨rfl, hb⟩
    have W2 : Hid (Below w.heap.size w v1) := W1.out.trans (hb.mono W1.out.size)
    clear hb W1 HS X1 WL
    go_wp2
    go_ret2
    exact ⟨rfl, W2.out⟩
end Go.Proofs.YtpljdlgjeeikkacDoor
