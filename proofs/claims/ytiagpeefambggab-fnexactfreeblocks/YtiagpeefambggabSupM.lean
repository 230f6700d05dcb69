/-
  Supers: which are right; placeOK, hasBlock, SuperOK of the program (written by tools/mksup.py).
-/
import Derived.Test.YtiagpeefambggabImgM
import Derived.Test.YtiagpeefambggabPlaceS
import Derived.Test.YtiagpeefambggabBox3
import Derived.Test.YtiagpeefambggabAnyH
import Derived.Test.YtiagpeefambggabInsJ
namespace Go.Proofs.Ytiagpeefambggab
open Go.ChangeShapes Go.WideShapes Go.ChangeAt Go.RowKit
set_option linter.unusedVariables false
/-- A place is right. -/
def Plc.Ok (p : Plc) : Prop := (2 ≤ p.bk ∧ p.bk < 64) ∧ (1 ≤ p.vs ∧ p.vs ≤ 65535)
/-- One place of a super is right. -/
def PlOne (P : Nat → Plc) (i : Nat) : Prop := (P i).Ok ∧ ∀ j, j < i → (P j).bk ≠ (P i).bk
/-- A super is right. -/
def SupOk (z : Int) (n : Nat) (P : Nat → Plc) (r : ByteArray) : Prop := (1 ≤ z ∧ z ≤ 1024 ∧ n = pcsN z.toNat ∧ r.size = 32) ∧ ∀ i, i < n → PlOne P i
theorem SupOk.n16 {z : Int} {n : Nat} {P : Nat → Plc} {r : ByteArray} (h : SupOk z n P r) : n ≤ 16 := by
  have h1 := h.1
  rw [h1.2.2.1]
  exact pcsN_le (by omega)
def FoundPc (n : Nat) (Bad : Nat → Prop) (e : Ending) : Prop := ∃ z : Int, e = .returned (.int .i64 z) ∧ ((0 ≤ z ∧ ∃ i, i < n ∧ Bad i) ∨ (z = -1 ∧ ∀ i, i < n → ¬ Bad i))
set_option maxRecDepth 100000 in
theorem cloPc (x v k : Int) (sb : Nat) (w : World) (hk : w.cell? ⟨sb, 0, none⟩ = some (.int .i64 k)) (z : Bool) (hz : z = gB (x = k)) :
    Calls Try.prog 30 #[.agg #[.int .i64 x, .int .i64 v], .pointer (some ⟨sb, 0, none⟩)] w fun e w' => e = .returned (.bool z) ∧ Below w.heap.size w w' := by
  have hb : Below w.heap.size w (w.alloc (.cells #[.int .i64 x, .int .i64 v] 48)) := (Below.refl _ _).alloc (Nat.le_refl _) _
  have hk2 : (w.alloc (.cells #[.int .i64 x, .int .i64 v] 48)).cell? ⟨sb, 0, none⟩ = some (.int .i64 k) := by rw [hb.cell (strBlock hk)]; exact hk
  have HB : Hid (Below w.heap.size w (w.alloc (.cells #[.int .i64 x, .int .i64 v] 48))) := hb
  by_cases e : x = k
  · obtain rfl : z = true := by rw [hz]; exact gB_yes e
    subst e
    clear hz hb hk
    go_enter Try.func30, Try.ntmps30
    go_wp2
    go_ret
    exact ⟨rfl, HB.out⟩
  · obtain rfl : z = false := by rw [hz]; exact gB_no e
    have e1 : (x == k) = false := by simp [e]
    clear hz hb hk e
    go_enter Try.func30, Try.ntmps30
    go_wp2
    go_ret
    exact ⟨rfl, HB.out⟩
set_option maxRecDepth 100000 in
set_option maxHeartbeats 1000000 in
theorem indexPc (sb : Nat) (a : Option Addr) (n c : Nat) (R : Nat → Plc) (Bad : Nat → Prop) (hn : n ≤ 1048576) (w : World) (h : Els w 2 a n (pcF R))
    (hcl : ∀ i, i < n → ∀ u : World, Below w.heap.size w u → Calls Try.prog 30 #[.agg #[.int .i64 (R i).bk, .int .i64 (R i).vs], .pointer (some ⟨sb, 0, none⟩)] u fun e u' => e = .returned (.bool (gB (Bad i))) ∧ Below u.heap.size u u') :
    Calls Try.prog 31 #[.slice a n c, .func (.func 30) #[] #[.pointer (some ⟨sb, 0, none⟩)]] w fun e w' => FoundPc n Bad e ∧ Below w.heap.size w w' := by
  have H : Hid (Els w 2 a n (pcF R)) := h
  have HC : Hid (∀ i, i < n → ∀ u : World, Below w.heap.size w u → Calls Try.prog 30 #[.agg #[.int .i64 (R i).bk, .int .i64 (R i).vs], .pointer (some ⟨sb, 0, none⟩)] u fun e u' => e = .returned (.bool (gB (Bad i))) ∧ Below u.heap.size u u') := hcl
  clear h hcl
  go_enter Try.func31, Try.ntmps31
  go_wp2
  go_loopw [8] (fun i wr => ∃ k : Nat, k ≤ n ∧ i = .int .i64 k ∧ (∀ j, j < k → ¬ Bad j) ∧ Below w.heap.size w wr) (fun i _ => n - (intOf i).toNat)
  case atStart => exact ⟨0, by omega, rfl, fun j hj => absurd hj (by omega), Below.refl _ _⟩
  case round =>
    obtain ⟨k, hk, rfl, hok, hb⟩ := hrel
    have HB : Hid (Below w.heap.size w wr) := hb
    have HK : Hid (∀ j, j < k → ¬ Bad j) := hok
    clear hok
    by_cases hlt : k < n
    · have hlt' : (k : Int) < (n : Int) := by omega
      obtain ⟨b, off, rfl, hc⟩ := (H.out.below hb).opened (by omega)
      have c0 : wr.cell? ⟨b, off + k * 2, none⟩ = some (.int .i64 (R k).bk) := hc k hlt 0 (by omega)
      have c1 : wr.cell? ⟨b, off + k * 2 + 1, none⟩ = some (.int .i64 (R k).vs) := hc k hlt 1 (by omega)
      have WM := HC.out k hlt wr hb
      by_cases ho : Bad k
      · rw [gB_yes ho] at WM
        have W1 : Hid _ := WM
        have HF : Hid (FoundPc n Bad (.returned (.int .i64 (k : Int)))) := ⟨k, rfl, .inl ⟨by omega, k, hlt, ho⟩⟩
        clear hc hb WM ho
        generalize R k = rk at *
        go_wp2_with fail
        refine Calls.mono W1.out ?_
        rintro e w1 ⟨rfl, hb⟩
        have B1 : Hid (Below w.heap.size w w1) := HB.out.trans (hb.mono HB.out.size)
        clear hb HB W1 c0 c1
        go_wp2
        go_ret
        exact ⟨HF.out, B1.out⟩
      · rw [gB_no ho] at WM
        have W1 : Hid _ := WM
        have HO : Hid (∀ j, j < k + 1 → ¬ Bad j) := fun j hj => by
          rcases Nat.lt_or_ge j k with q | q
          · exact HK.out j q
          · obtain rfl : j = k := by omega
            exact ho
        clear hc hb WM ho
        generalize R k = rk at *
        go_wp2_with fail
        refine Calls.mono W1.out ?_
        rintro e w1 ⟨rfl, hb⟩
        have B1 : Hid (Below w.heap.size w w1) := HB.out.trans (hb.mono HB.out.size)
        clear hb HB W1 c0 c1
        go_wp2
        go_roundw
        case rel => exact ⟨k + 1, by omega, by go_num, HO.out, B1.out⟩
        case measure => simp [intOf]; omega
    · have hlt' : ¬ (k : Int) < (n : Int) := by omega
      have HF : Hid (FoundPc n Bad (.returned (.int .i64 (-1)))) := ⟨-1, rfl, .inr ⟨rfl, fun j hj => HK.out j (by omega)⟩⟩
      clear hb
      go_wp2
      go_ret
      exact ⟨HF.out, HB.out⟩
set_option maxRecDepth 100000 in
theorem containsPc (sb : Nat) (a : Option Addr) (n c : Nat) (R : Nat → Plc) (Bad : Nat → Prop) (hn : n ≤ 1048576) (w : World) (h : Els w 2 a n (pcF R))
    (hcl : ∀ i, i < n → ∀ u : World, Below w.heap.size w u → Calls Try.prog 30 #[.agg #[.int .i64 (R i).bk, .int .i64 (R i).vs], .pointer (some ⟨sb, 0, none⟩)] u fun e u' => e = .returned (.bool (gB (Bad i))) ∧ Below u.heap.size u u') (z : Bool) (hz : z = gB (∃ i, i < n ∧ Bad i)) :
    Calls Try.prog 29 #[.slice a n c, .func (.func 30) #[] #[.pointer (some ⟨sb, 0, none⟩)]] w fun e w' => e = .returned (.bool z) ∧ Below w.heap.size w w' := by
  have IX : Hid (Calls Try.prog 31 #[.slice a n c, .func (.func 30) #[] #[.pointer (some ⟨sb, 0, none⟩)]] w fun e w' => FoundPc n Bad e ∧ Below w.heap.size w w') := indexPc sb a n c R Bad hn w h hcl
  have HZ : Hid (z = gB (∃ i, i < n ∧ Bad i)) := hz
  clear h hz hcl
  go_enter Try.func29, Try.ntmps29
  go_wp2_with fail
  refine IX.out.mono ?_
  rintro e w1 ⟨⟨r, rfl, hr⟩, hb⟩
  have HB : Hid (Below w.heap.size w w1) := hb
  rcases hr with ⟨h0, h1⟩ | ⟨rfl, h1⟩
  · have HZ2 : Hid (z = true) := HZ.out.trans (gB_yes h1)
    clear h1 hb
    go_wp2
    go_ret
    exact ⟨by rw [HZ2.out]; rfl, HB.out⟩
  · have HZ2 : Hid (z = false) := HZ.out.trans (gB_no (fun ⟨i, hi, q⟩ => h1 i hi q))
    clear h1 hb
    go_wp2
    go_ret
    exact ⟨by rw [HZ2.out]; rfl, HB.out⟩
set_option maxRecDepth 100000 in
theorem hasBlock_any (a : Option Addr) (n c : Nat) (P : Nat → Plc) (k : Int) (hn : n ≤ 1048576) (w : World) (h : Els w 2 a n (pcF P)) (z : Bool) (hz : z = gB (∃ i, i < n ∧ (P i).bk = k)) :
    Calls Try.prog 26 #[.slice a n c, .int .i64 k] w fun e w' => e = .returned (.bool z) ∧ Below w.heap.size w w' := by
  have hb : Below w.heap.size w (w.alloc (.cells #[.int .i64 k] 3)) := (Below.refl _ _).alloc (Nat.le_refl _) _
  have hk : (w.alloc (.cells #[.int .i64 k] 3)).cell? ⟨w.heap.size, 0, none⟩ = some (.int .i64 k) := (World.rowIs_alloc w #[.int .i64 k] 3 (fun _ => .int .i64 k) (fun i hi => by
    obtain rfl : i = 0 := by simpa using hi
    rfl)).cell (i := 0) (by simp)
  have CF : Hid (Calls Try.prog 29 #[.slice a n c, .func (.func 30) #[] #[.pointer (some ⟨w.heap.size, 0, none⟩)]] (w.alloc (.cells #[.int .i64 k] 3)) fun e w' => e = .returned (.bool z) ∧ Below (w.alloc (.cells #[.int .i64 k] 3)).heap.size (w.alloc (.cells #[.int .i64 k] 3)) w') := containsPc w.heap.size a n c P (fun i => (P i).bk = k) hn _ (h.below hb) (fun i hi u hu => cloPc _ _ k w.heap.size u (by rw [hu.cell (strBlock hk)]; exact hk) _ rfl) z hz
  have HB : Hid (Below w.heap.size w (w.alloc (.cells #[.int .i64 k] 3))) := hb
  clear hb hk h hz
  go_enter Try.func26, Try.ntmps26
  go_wp2_with fail
  generalize (w.alloc (.cells #[.int .i64 k] 3)) = v at *
  refine CF.out.mono ?_
  rintro e w1 ⟨rfl, hb⟩
  have HB1 : Hid (Below w.heap.size w w1) := HB.out.trans (hb.mono HB.out.size)
  clear hb CF HB
  go_wp2
  go_ret
  exact ⟨rfl, HB1.out⟩
set_option maxRecDepth 100000 in
theorem isVersion_any (x : Int) (r : Bool) (hr : r = decide (1 ≤ x ∧ x ≤ 65535)) (w : World) :
    Calls Try.prog 28 #[.int .i64 x] w fun e w' => e = .returned (.bool r) ∧ w = w' := by
  by_cases h1 : 1 ≤ x
  · by_cases h2 : x ≤ 65535
    · obtain rfl : r = true := by rw [hr]; simp; omega
      clear hr
      go_enter Try.func28, Try.ntmps28
      go_wp2
      go_ret
      exact ⟨rfl, rfl⟩
    · obtain rfl : r = false := by rw [hr]; simp; omega
      clear hr
      go_enter Try.func28, Try.ntmps28
      go_wp2
      go_ret
      exact ⟨rfl, rfl⟩
  · obtain rfl : r = false := by rw [hr]; simp; omega
    clear hr
    go_enter Try.func28, Try.ntmps28
    go_wp2
    go_ret
    exact ⟨rfl, rfl⟩
set_option maxRecDepth 100000 in
theorem placeOK_any (x v : Int) (z : Bool) (hz : z = gB ((⟨x, v⟩ : Plc).Ok)) (w : World) :
    Calls Try.prog 25 #[.agg #[.int .i64 x, .int .i64 v]] w fun e w' => e = .returned (.bool z) ∧ Below w.heap.size w w' := by
  have HB : Hid (Below w.heap.size w (w.alloc (.cells #[.int .i64 x, .int .i64 v] 48))) := (Below.refl _ _).alloc (Nat.le_refl _) _
  by_cases h1 : 2 ≤ x
  · by_cases h2 : x < 64
    · have IV : Hid (∀ w : World, Calls Try.prog 28 #[.int .i64 v] w fun e w' => e = .returned (.bool z) ∧ w = w') := fun w => isVersion_any v z (by
        rw [hz]
        by_cases q : 1 ≤ v ∧ v ≤ 65535
        · rw [gB_yes ⟨⟨h1, h2⟩, q⟩]; simp [q]
        · rw [gB_no (fun t => q t.2)]; simp [q]) w
      clear hz
      go_enter Try.func25, Try.ntmps25
      go_wp2_with fail
      refine (IV.out _).mono ?_
      rintro e _ ⟨rfl, rfl⟩
      go_wp2
      go_ret
      exact ⟨rfl, HB.out⟩
    · obtain rfl : z = false := by rw [hz]; exact gB_no (fun t => h2 t.1.2)
      clear hz
      go_enter Try.func25, Try.ntmps25
      go_wp2
      go_ret
      exact ⟨rfl, HB.out⟩
  · obtain rfl : z = false := by rw [hz]; exact gB_no (fun t => h1 t.1.1)
    clear hz
    go_enter Try.func25, Try.ntmps25
    go_wp2
    go_ret
    exact ⟨rfl, HB.out⟩
end Go.Proofs.Ytiagpeefambggab
