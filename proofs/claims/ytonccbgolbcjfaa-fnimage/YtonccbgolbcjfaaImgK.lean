/-
  Pieces put together: piecesFault, imageOf, JoinImage of the program; l12Join, JoinImage of the model.
-/
import Derived.Test.YtonccbgolbcjfaaImgJ
namespace Go.Proofs.Ytonccbgolbcjfaa
open Go.ChangeShapes Go.WideShapes Go.ChangeAt Go.RowKit
set_option linter.unusedVariables false
/-- What piecesFault tells of m lists. -/
def PfIs (m : Nat) (N : Nat → Nat) (FF : Nat → Nat → ByteArray) (c : Int) : Prop :=
  (c = 2 ∧ ∃ j, j < m ∧ 4096 < N j) ∨ (c = 1 ∧ (∀ j, j < m → ¬ 4096 < N j) ∧ ∃ j, j < m ∧ ¬ PcsOk (N j) (FF j)) ∨ (c = 0 ∧ ∀ j, j < m → PcsOk (N j) (FF j))
def RetPF (m : Nat) (N : Nat → Nat) (FF : Nat → Nat → ByteArray) (e : Ending) : Prop := ∃ c : Int, e = .returned (.int .i64 c) ∧ PfIs m N FF c
set_option maxRecDepth 100000 in
set_option maxHeartbeats 2000000 in
theorem piecesFault_any (q m : Nat) (A : Nat → Option Addr) (N C : Nat → Nat) (FF : Nat → Nat → ByteArray) (hm : m ≤ 2) (w : World) (hc : ∀ j, j < m → w.cell? ⟨q, j, none⟩ = some (.slice (A j) (N j) (C j))) (h : ∀ j, j < m → Strs w (A j) (N j) (FF j)) :
    Calls Try.prog 35 #[.slice (some ⟨q, 0, none⟩) m m] w fun e w' => RetPF m N FF e ∧ w = w' := by
  have HC : Hid (∀ j, j < m → w.cell? ⟨q, j, none⟩ = some (.slice (A j) (N j) (C j))) := hc
  have HS : Hid (∀ j, j < m → Strs w (A j) (N j) (FF j)) := h
  have HM : Hid (m ≤ 2) := hm
  clear hc h hm
  go_enter Try.func35, Try.ntmps35
  go_wp2
  go_loopw [9] (fun i wr => ∃ k : Nat, k ≤ m ∧ i = .int .i64 k ∧ (∀ j, j < k → ¬ 4096 < N j) ∧ w = wr) (fun i _ => m - (intOf i).toNat)
  case atStart => exact ⟨0, by omega, rfl, fun j hj => absurd hj (by omega), rfl⟩
  case round =>
    obtain ⟨k, hk, rfl, hall, rfl⟩ := hrel
    have HA : Hid (∀ j, j < k → ¬ 4096 < N j) := hall
    clear hall
    by_cases hlt : k < m
    · have hlt' : (k : Int) < (m : Int) := by omega
      have k0 : (0 : Int) ≤ (k : Int) := by omega
      have kb : (k : Int) ≤ 2 := by have := HM.out; omega
      have c1 := HC.out k hlt
      have HK : Hid (k < m) := hlt
      by_cases h4 : 4096 < N k
      · have e4 : (4096 : Int) < (N k : Int) := by omega
        have HR : Hid (RetPF m N FF (.returned (.int .i64 2))) := ⟨2, rfl, .inl ⟨rfl, k, hlt, h4⟩⟩
        clear hlt hk h4
        generalize A k = Ak at *
        generalize N k = Nk at *
        generalize C k = Ck at *
        go_wp2
        go_ret
        exact ⟨HR.out, rfl⟩
      · have e4 : ¬ (4096 : Int) < (N k : Int) := by omega
        have HT : Hid (∀ j, j < k + 1 → ¬ 4096 < N j) := fun j hj => by
          by_cases e : j = k
          · subst e; exact h4
          · exact HA.out j (by omega)
        clear hlt hk h4
        generalize A k = Ak at *
        generalize N k = Nk at *
        generalize C k = Ck at *
        go_wp2
        go_roundw
        case rel => exact ⟨k + 1, by have := HK.out; omega, by go_num, HT.out, by trivial⟩
        case measure => have := HK.out; simp [intOf]; omega
    · obtain rfl : k = m := by omega
      clear hlt hk
      go_wp2
      go_loopw [19] (fun i wr => ∃ q : Nat, q ≤ k ∧ i = .int .i64 q ∧ (∀ j, j < q → PcsOk (N j) (FF j)) ∧ w = wr) (fun i _ => k - (intOf i).toNat)
      case atStart => exact ⟨0, by omega, rfl, fun j hj => absurd hj (by omega), rfl⟩
      case round =>
        obtain ⟨p, hp, rfl, hall, rfl⟩ := hrel
        have HB : Hid (∀ j, j < p → PcsOk (N j) (FF j)) := hall
        clear hall
        by_cases hlt : p < k
        · have hlt' : (p : Int) < (k : Int) := by omega
          have k0 : (0 : Int) ≤ (p : Int) := by omega
          have kb : (p : Int) ≤ 2 := by have := HM.out; omega
          have c1 := HC.out p hlt
          have HK : Hid (p < k) := hlt
          by_cases h4 : PcsOk (N p) (FF p)
          · have AP : Hid (Calls Try.prog 45 #[.slice (A p) (N p) (C p)] w fun e w' => e = .returned (.bool true) ∧ w = w') := arePieces_any (A p) (N p) (C p) (FF p) w (HS.out p hlt) true (gB_yes h4).symm
            have HT : Hid (∀ j, j < p + 1 → PcsOk (N j) (FF j)) := fun j hj => by
              by_cases e : j = p
              · subst e; exact h4
              · exact HB.out j (by omega)
            clear hlt hp h4
            generalize A p = Ak at *
            generalize N p = Nk at *
            generalize C p = Ck at *
            go_wp2_with fail
            refine AP.out.mono ?_
            rintro e _ ⟨rfl, rfl⟩
            go_wp2
            go_roundw
            case rel => exact ⟨p + 1, by have := HK.out; omega, by go_num, HT.out, by trivial⟩
            case measure => have := HK.out; simp [intOf]; omega
          · have AP : Hid (Calls Try.prog 45 #[.slice (A p) (N p) (C p)] w fun e w' => e = .returned (.bool false) ∧ w = w') := arePieces_any (A p) (N p) (C p) (FF p) w (HS.out p hlt) false (gB_no h4).symm
            have HR : Hid (RetPF k N FF (.returned (.int .i64 1))) := ⟨1, rfl, .inr (.inl ⟨rfl, HA.out, p, hlt, h4⟩)⟩
            clear hlt hp h4
            generalize A p = Ak at *
            generalize N p = Nk at *
            generalize C p = Ck at *
            go_wp2_with fail
            refine AP.out.mono ?_
            rintro e _ ⟨rfl, rfl⟩
            go_wp2
            go_ret
            exact ⟨HR.out, rfl⟩
        · obtain rfl : p = k := by omega
          have HR : Hid (RetPF p N FF (.returned (.int .i64 0))) := ⟨0, rfl, .inr (.inr ⟨rfl, HB.out⟩)⟩
          clear hlt hp
          go_wp2
          go_ret
          exact ⟨HR.out, rfl⟩
/-- The bytes of the first n texts. -/
def joinL (F : Nat → ByteArray) : Nat → List Nat
  | 0 => []
  | n + 1 => joinL F n ++ strL (F n)
theorem joinL_le {m : Nat} {F : Nat → ByteArray} (h : ∀ i, i < m → (F i).size ≤ 64) : ∀ n, n ≤ m → (joinL F n).length ≤ n * 64
  | 0, _ => by simp [joinL]
  | n + 1, hn => by
    have := joinL_le h n (by omega)
    have := h n (by omega)
    rw [joinL, List.length_append, strL_length]
    omega
set_option maxRecDepth 100000 in
set_option maxHeartbeats 2000000 in
theorem imageOf_any (a : Option Addr) (n c : Nat) (F : Nat → ByteArray) (hok : PcsOk n F) (w : World) (h : Strs w a n F) :
    Calls Try.prog 36 #[.slice a n c] w fun e w' => (∃ a' c', e = .returned (.slice a' (joinL F n).length c') ∧ OL w' w.heap.size (.slice a' (joinL F n).length c') (joinL F n)) ∧ Below w.heap.size w w' := by
  have HC : Hid (Strs w a n F) := h
  have HL : Hid (∀ k, k ≤ n → (joinL F k).length ≤ k * 64) := fun k hk => joinL_le (fun i hi => (hok.2 i hi).1.2) k hk
  have HO : Hid (PcsOk n F) := hok
  clear h hok
  go_enter Try.func36, Try.ntmps36
  go_wp2
  go_loopw [3, 8] (fun v i wr => ∃ (k m c2 : Nat) (a2 : Option Addr), k ≤ n ∧ m = (joinL F k).length ∧ i = .int .i64 k ∧ v = .slice a2 m c2 ∧ OL wr w.heap.size (.slice a2 m c2) (joinL F k) ∧ Below w.heap.size w wr) (fun _ i _ => n - (intOf i).toNat)
  case atStart => exact ⟨0, 0, 0, none, by omega, rfl, rfl, rfl, OL.nil _ _, Below.refl _ _⟩
  case round =>
    obtain ⟨k, m, c2, a2, hk, hm, rfl, rfl, ho, hb⟩ := hrel
    by_cases hlt : k < n
    · have hlt' : (k : Int) < (n : Int) := by omega
      have k0 : (0 : Int) ≤ (k : Int) := by omega
      have kb : (k : Int) ≤ 16 := by have := HO.out.1; omega
      obtain ⟨b, off, rfl, hc⟩ := (HC.out.below hb).opened (by omega)
      have c1 := hc k hlt
      have h64 := (HO.out.2 k hlt).1.2
      obtain ⟨v3, w3, hr, ho3, hb3, _⟩ := OL.appS wr w.heap.size (.slice a2 m c2) (joinL F k) (F k) hb.size (by have := HL.out k hk; have := HO.out.1; omega) ho
      obtain ⟨a3, c3, rfl⟩ := ho3.form
      have HR : Hid (OL w3 w.heap.size (.slice a3 (joinL F (k + 1)).length c3) (joinL F (k + 1))) := ho3
      have HB : Hid (Below w.heap.size w w3) := hb.trans hb3
      have HK : Hid (k < n) := hlt
      have ej : joinL F k ++ strL (F k) = joinL F (k + 1) := rfl
      rw [ej] at hr
      generalize F k = V at *
      clear hc ho hb ho3 hb3 ej h64 hm hlt hk
      generalize hM3 : (joinL F (k + 1)).length = m3 at *
      have HM3 : Hid (m3 = (joinL F (k + 1)).length) := hM3.symm
      clear hM3
      go_wp2_with (at_builtin; refine Lib.wpList_append_run _ rfl (.tmp 12) (.tmp 13) 22 9 rfl (.slice a2 m c2) (.string V) rfl rfl _ _ (hr _) ?_)
      go_roundw
      case rel => exact ⟨k + 1, m3, c3, a3, by have := HK.out; omega, HM3.out, by go_num, rfl, HR.out, HB.out⟩
      case measure => have := HK.out; simp [intOf]; omega
    · obtain rfl : k = n := by omega
      subst hm
      have HR : Hid (OL wr w.heap.size (.slice a2 (joinL F k).length c2) (joinL F k)) := ho
      have HB : Hid (Below w.heap.size w wr) := hb
      clear ho hb hlt hk HO HL
      go_wp2
      go_ret
      exact ⟨⟨a2, c2, rfl, HR.out⟩, HB.out⟩
set_option maxRecDepth 100000 in
set_option maxHeartbeats 2000000 in
theorem l12Join_any (a : Option Addr) (n c : Nat) (F : Nat → ByteArray) (hok : PcsOk n F) (w : World) (h : Strs w a n F) :
    Calls Try.prog 42 #[.slice a n c] w fun e w' => (∃ a' c', e = .returned (.slice a' (joinL F n).length c') ∧ OL w' w.heap.size (.slice a' (joinL F n).length c') (joinL F n)) ∧ Below w.heap.size w w' := by
  have HC : Hid (Strs w a n F) := h
  have HL : Hid (∀ k, k ≤ n → (joinL F k).length ≤ k * 64) := fun k hk => joinL_le (fun i hi => (hok.2 i hi).1.2) k hk
  have HO : Hid (PcsOk n F) := hok
  clear h hok
  go_enter Try.func42, Try.ntmps42
  go_wp2
  go_loopw [3, 4] (fun v i wr => ∃ (k m c2 : Nat) (a2 : Option Addr), k ≤ n ∧ m = (joinL F k).length ∧ i = .int .i64 k ∧ v = .slice a2 m c2 ∧ OL wr w.heap.size (.slice a2 m c2) (joinL F k) ∧ Below w.heap.size w wr) (fun _ i _ => n - (intOf i).toNat)
  case atStart => exact ⟨0, 0, 0, _, by omega, rfl, rfl, rfl, OL.lit _ _ (Nat.le_refl _), (Below.refl _ _).alloc (Nat.le_refl _) _⟩
  case round =>
    obtain ⟨k, m, c2, a2, hk, hm, rfl, rfl, ho, hb⟩ := hrel
    by_cases hlt : k < n
    · have hlt' : (k : Int) < (n : Int) := by omega
      have k0 : (0 : Int) ≤ (k : Int) := by omega
      have kb : (k : Int) ≤ 16 := by have := HO.out.1; omega
      obtain ⟨b, off, rfl, hc⟩ := (HC.out.below hb).opened (by omega)
      have c1 := hc k hlt
      have h64 := (HO.out.2 k hlt).1.2
      obtain ⟨v3, w3, hr, ho3, hb3, _⟩ := OL.appS wr w.heap.size (.slice a2 m c2) (joinL F k) (F k) hb.size (by have := HL.out k hk; have := HO.out.1; omega) ho
      obtain ⟨a3, c3, rfl⟩ := ho3.form
      have HR : Hid (OL w3 w.heap.size (.slice a3 (joinL F (k + 1)).length c3) (joinL F (k + 1))) := ho3
      have HB : Hid (Below w.heap.size w w3) := hb.trans hb3
      have HK : Hid (k < n) := hlt
      have ej : joinL F k ++ strL (F k) = joinL F (k + 1) := rfl
      rw [ej] at hr
      generalize F k = V at *
      clear hc ho hb ho3 hb3 ej h64 hm hlt hk
      generalize hM3 : (joinL F (k + 1)).length = m3 at *
      have HM3 : Hid (m3 = (joinL F (k + 1)).length) := hM3.symm
      clear hM3
      go_wp2_with (at_builtin; refine Lib.wpList_append_run _ rfl (.tmp 12) (.tmp 16) 22 9 rfl (.slice a2 m c2) (.string V) rfl rfl _ _ (hr _) ?_)
      go_roundw
      case rel => exact ⟨k + 1, m3, c3, a3, by have := HK.out; omega, HM3.out, by go_num, rfl, HR.out, HB.out⟩
      case measure => have := HK.out; simp [intOf]; omega
    · obtain rfl : k = n := by omega
      subst hm
      have HR : Hid (OL wr w.heap.size (.slice a2 (joinL F k).length c2) (joinL F k)) := ho
      have HB : Hid (Below w.heap.size w wr) := hb
      clear ho hb hlt hk HO HL
      go_wp2
      go_ret
      exact ⟨⟨a2, c2, rfl, HR.out⟩, HB.out⟩
theorem ByR.none0 (w : World) (a : Option Addr) (g : Nat) (f : Nat → Nat) : ByR w a g 0 f := .inl rfl
set_option maxRecDepth 100000 in
theorem lists1 (w : World) (v : Value) (t : TypeId) : ∀ j, j < 1 → (w.alloc (.cells #[v] t)).cell? ⟨w.heap.size, j, none⟩ = some v := fun j hj => by
  obtain rfl : j = 0 := by omega
  exact (World.rowIs_alloc w #[v] t (fun _ => v) (fun i hi => by
    obtain rfl : i = 0 := by simpa using hi
    rfl)).cell (i := 0) (by omega)
set_option maxRecDepth 100000 in
theorem implJoin_any (a : Option Addr) (n c : Nat) (F : Nat → ByteArray) (L : List Nat) (cd : Int) (hA : (4096 < n ∧ cd = 2 ∧ L = []) ∨ (¬ 4096 < n ∧ ¬ PcsOk n F ∧ cd = 1 ∧ L = []) ∨ (PcsOk n F ∧ cd = 0 ∧ L = joinL F n)) (w : World) (h : Strs w a n F) :
    Calls Try.prog 11 #[.slice a n c] w fun e w' => (∃ a' c', e = .returned (.tuple #[.slice a' L.length c', .int .i64 cd]) ∧ OL w' w.heap.size (.slice a' L.length c') L) ∧ Below w.heap.size w w' := by
  have hb : Below w.heap.size w (w.alloc (.cells #[.slice a n c] 24)) := (Below.refl _ _).alloc (Nat.le_refl _) _
  have PF : Hid (Calls Try.prog 35 #[.slice (some ⟨w.heap.size, 0, none⟩) 1 1] (w.alloc (.cells #[.slice a n c] 24)) fun e w' => RetPF 1 (fun _ => n) (fun _ => F) e ∧ (w.alloc (.cells #[.slice a n c] 24)) = w') := piecesFault_any w.heap.size 1 (fun _ => a) (fun _ => n) (fun _ => c) (fun _ => F) (by omega) _ (lists1 w _ _) (fun j hj => h.below hb)
  have HB : Hid (Below w.heap.size w (w.alloc (.cells #[.slice a n c] 24))) := hb
  have HS : Hid (Strs (w.alloc (.cells #[.slice a n c] 24)) a n F) := h.below hb
  have HA : Hid ((4096 < n ∧ cd = 2 ∧ L = []) ∨ (¬ 4096 < n ∧ ¬ PcsOk n F ∧ cd = 1 ∧ L = []) ∨ (PcsOk n F ∧ cd = 0 ∧ L = joinL F n)) := hA
  clear hb h hA
  go_enter Try.func11, Try.ntmps11
  go_wp2_with fail
  generalize (w.alloc (.cells #[.slice a n c] 24)) = v at *
  refine PF.out.mono ?_
  rintro e _ ⟨⟨x, rfl, hx⟩, rfl⟩
  clear PF
  have hcs : (x = cd ∧ ¬ x = 0 ∧ L = []) ∨ (x = 0 ∧ cd = 0 ∧ PcsOk n F ∧ L = joinL F n) := by
    rcases HA.out with ⟨h4, rfl, hL⟩ | ⟨h4, hp, rfl, hL⟩ | ⟨hp, rfl, hL⟩ <;> rcases hx with ⟨rfl, j, hj, q⟩ | ⟨rfl, q1, j, hj, q⟩ | ⟨rfl, q⟩
    · exact .inl ⟨rfl, by omega, hL⟩
    · exact absurd h4 (q1 0 (by omega))
    · exact absurd (show n ≤ 16 from (q 0 (by omega)).1) (by omega)
    · exact absurd q h4
    · exact .inl ⟨rfl, by omega, hL⟩
    · exact absurd (q 0 (by omega)) hp
    · exact absurd (show 4096 < n from q) (by have := hp.1; omega)
    · exact absurd hp q
    · exact .inr ⟨rfl, rfl, hp, hL⟩
  clear hx HA
  rcases hcs with ⟨rfl, hx, rfl⟩ | ⟨rfl, rfl, hp, rfl⟩
  · have e1 : (x != 0) = true := by simp [hx]
    clear hx
    go_wp2
    exact bodyPost_ret (results_tmp2 Try.results11 _ _ _) rfl ⟨⟨none, 0, rfl, OL.nil _ _⟩, HB.out⟩
  · have IM : Hid (Calls Try.prog 36 #[.slice a n c] v fun e w' => (∃ a' c', e = .returned (.slice a' (joinL F n).length c') ∧ OL w' v.heap.size (.slice a' (joinL F n).length c') (joinL F n)) ∧ Below v.heap.size v w') := imageOf_any a n c F hp v HS.out
    clear hp HS
    go_wp2_with fail
    refine IM.out.mono ?_
    rintro e v2 ⟨⟨a', c', rfl, ho⟩, hb⟩
    have HO : Hid (OL v2 w.heap.size (.slice a' (joinL F n).length c') (joinL F n)) := ho.mono HB.out.size
    have HB2 : Hid (Below w.heap.size w v2) := HB.out.trans (hb.mono HB.out.size)
    clear ho hb IM HB
    go_wp2
    exact bodyPost_ret (results_tmp2 Try.results11 _ _ _) rfl ⟨⟨a', c', rfl, HO.out⟩, HB2.out⟩
set_option maxRecDepth 100000 in
theorem specJoin_any (a : Option Addr) (n c : Nat) (F : Nat → ByteArray) (L : List Nat) (cd : Int) (hA : (4096 < n ∧ cd = 2 ∧ L = []) ∨ (¬ 4096 < n ∧ ¬ PcsOk n F ∧ cd = 1 ∧ L = []) ∨ (PcsOk n F ∧ cd = 0 ∧ L = joinL F n)) (w : World) (h : Strs w a n F) :
    Calls Try.prog 26 #[.slice a n c] w fun e w' => (∃ a' c', e = .returned (.tuple #[.slice a' L.length c', .int .i64 cd]) ∧ OL w' w.heap.size (.slice a' L.length c') L) ∧ Below w.heap.size w w' := by
  rcases hA with ⟨h4, rfl, rfl⟩ | ⟨h4, hp, rfl, rfl⟩ | ⟨hp, rfl, rfl⟩
  · have n0 : (4096 : Int) < (n : Int) := by omega
    clear h
    go_enter Try.func26, Try.ntmps26
    go_wp2
    exact bodyPost_ret (results_tmp2 Try.results26 _ _ _) rfl ⟨⟨_, 0, rfl, OL.lit _ _ (Nat.le_refl _)⟩, (Below.refl _ _).alloc (Nat.le_refl _) _⟩
  · have n0 : ¬ (4096 : Int) < (n : Int) := by omega
    have LP : Hid (Calls Try.prog 37 #[.slice a n c] w fun e w' => e = .returned (.bool false) ∧ w = w') := l12Pieces_any a n c F w h false (gB_no hp).symm
    clear h hp
    go_enter Try.func26, Try.ntmps26
    go_wp2_with fail
    refine LP.out.mono ?_
    rintro e _ ⟨rfl, rfl⟩
    go_wp2
    exact bodyPost_ret (results_tmp2 Try.results26 _ _ _) rfl ⟨⟨_, 0, rfl, OL.lit _ _ (Nat.le_refl _)⟩, (Below.refl _ _).alloc (Nat.le_refl _) _⟩
  · have n0 : ¬ (4096 : Int) < (n : Int) := by have := hp.1; omega
    have LP : Hid (Calls Try.prog 37 #[.slice a n c] w fun e w' => e = .returned (.bool true) ∧ w = w') := l12Pieces_any a n c F w h true (gB_yes hp).symm
    have IM : Hid (Calls Try.prog 42 #[.slice a n c] w fun e w' => (∃ a' c', e = .returned (.slice a' (joinL F n).length c') ∧ OL w' w.heap.size (.slice a' (joinL F n).length c') (joinL F n)) ∧ Below w.heap.size w w') := l12Join_any a n c F hp w h
    clear h hp
    go_enter Try.func26, Try.ntmps26
    go_wp2_with fail
    refine LP.out.mono ?_
    rintro e _ ⟨rfl, rfl⟩
    go_wp2_with fail
    refine IM.out.mono ?_
    rintro e v2 ⟨⟨a', c', rfl, ho⟩, hb⟩
    have HO : Hid (OL v2 w.heap.size (.slice a' (joinL F n).length c') (joinL F n)) := ho
    have HB2 : Hid (Below w.heap.size w v2) := hb
    clear ho hb IM LP
    go_wp2
    exact bodyPost_ret (results_tmp2 Try.results26 _ _ _) rfl ⟨⟨a', c', rfl, HO.out⟩, HB2.out⟩
/-- Both answer alike. -/
theorem join_both (n : Nat) (F : Nat → ByteArray) : ∃ (N : Nat) (EL : Nat → Nat) (cd : Int), N ≤ 1024 ∧
    (∀ (g0 : Nat) (w : World), Strs w (some ⟨g0, 0, none⟩) n F → Calls Try.prog 26 #[.slice (some ⟨g0, 0, none⟩) n n] w fun e w' => (∃ (b : Option Addr) (x g : Nat), e = .returned (.tuple #[.slice b N x, .int .i64 cd]) ∧ ByR w' b g N EL ∧ (0 < N → w.heap.size ≤ g ∧ g < w'.heap.size)) ∧ Below w.heap.size w w') ∧
    (∀ (g0 : Nat) (w : World), Strs w (some ⟨g0, 0, none⟩) n F → Calls Try.prog 11 #[.slice (some ⟨g0, 0, none⟩) n n] w fun e w' => (∃ (b : Option Addr) (x g : Nat), e = .returned (.tuple #[.slice b N x, .int .i64 cd]) ∧ ByR w' b g N EL ∧ (0 < N → w.heap.size ≤ g ∧ g < w'.heap.size)) ∧ Below w.heap.size w w') := by
  obtain ⟨L, cd, hA, hl⟩ : ∃ (L : List Nat) (cd : Int), ((4096 < n ∧ cd = 2 ∧ L = []) ∨ (¬ 4096 < n ∧ ¬ PcsOk n F ∧ cd = 1 ∧ L = []) ∨ (PcsOk n F ∧ cd = 0 ∧ L = joinL F n)) ∧ L.length ≤ 1024 := by
    by_cases h4 : 4096 < n
    · exact ⟨[], 2, .inl ⟨h4, rfl, rfl⟩, by simp⟩
    · by_cases hp : PcsOk n F
      · refine ⟨joinL F n, 0, .inr (.inr ⟨hp, rfl, rfl⟩), ?_⟩
        have := joinL_le (fun i hi => (hp.2 i hi).1.2) n (Nat.le_refl _)
        have := hp.1
        omega
      · exact ⟨[], 1, .inr (.inl ⟨h4, hp, rfl, rfl⟩), by simp⟩
  refine ⟨L.length, fun i => L.getD i 0, cd, hl, fun g0 w h => (specJoin_any _ n n F L cd hA w h).mono ?_, fun g0 w h => (implJoin_any _ n n F L cd hA w h).mono ?_⟩
  · rintro e w' ⟨⟨a', c', rfl, ho⟩, hb⟩
    obtain ⟨g, hr, hg⟩ := ho.byR rfl
    exact ⟨⟨a', c', g, rfl, hr, hg⟩, hb⟩
  · rintro e w' ⟨⟨a', c', rfl, ho⟩, hb⟩
    obtain ⟨g, hr, hg⟩ := ho.byR rfl
    exact ⟨⟨a', c', g, rfl, hr, hg⟩, hb⟩
end Go.Proofs.Ytonccbgolbcjfaa
