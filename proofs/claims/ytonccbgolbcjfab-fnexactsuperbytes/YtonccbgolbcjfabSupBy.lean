/-
  The bytes of a super: SuperBytes of the program and of the model (written by tools/mksupby.py).
-/
import Derived.Test.YtonccbgolbcjfabSupB
import Derived.Test.YtonccbgolbcjfabByRow
import Derived.Deep.Cut
namespace Go.Proofs.Ytonccbgolbcjfab
open Go.ChangeShapes Go.WideShapes Go.ChangeAt Go.RowKit
set_option linter.unusedVariables false
/-- The bytes of a place. -/
def plL (p : Plc) : List Nat := [p.bk.toNat] ++ numL 2 p.vs.toNat
def flatP (P : Nat → Plc) : Nat → List Nat
  | 0 => []
  | k + 1 => flatP P k ++ plL (P k)
theorem plL_length (p : Plc) : (plL p).length = 3 := by unfold plL; rw [List.length_append, numL_length]; rfl
theorem flatP_length (P : Nat → Plc) : ∀ k, (flatP P k).length = 3 * k
  | 0 => rfl
  | k + 1 => by rw [flatP, List.length_append, plL_length, flatP_length P k]; omega
/-- The bytes of a super. -/
def supL (z : Int) (n : Nat) (P : Nat → Plc) (r : ByteArray) : List Nat := numL 2 z.toNat ++ flatP P n ++ strL r
theorem headL_length (z : Int) (k : Nat) (P : Nat → Plc) : (numL 2 z.toNat ++ flatP P k).length = 2 + 3 * k := by rw [List.length_append, numL_length, flatP_length]
theorem supL_length (z : Int) (n : Nat) (P : Nat → Plc) (r : ByteArray) : (supL z n P r).length = 2 + 3 * n + r.size := by unfold supL; rw [List.length_append, headL_length, strL_length]
/-- The bytes L lie in block b from its head on. -/
def LitP (w : World) (b : Nat) (L : List Nat) : Prop := ∀ j (hj : j < L.length), w.cell? ⟨b, 0 + j, none⟩ = some (.int .u8 ((L[j] : Nat) : Int))
theorem LitP.below {w w' : World} {b : Nat} {L : List Nat} (h : LitP w b L) (hb : Below w.heap.size w w') (hl : b < w.heap.size) : LitP w' b L := fun j hj => (World.cell?_of_block (w := w) (a := ⟨b, 0 + j, none⟩) (hb.block b hl)).trans (h j hj)
theorem numEqUP {a b : Int} (h : a = b) : Value.int .u8 a = .int .u8 b := by rw [h]
theorem lit1P (w : World) (x : Nat) : LitP (w.alloc (.cells #[.int .u8 ((x : Nat) : Int)] 5)) w.heap.size [x] := fun j hj => by
  obtain rfl : j = 0 := by simpa using hj
  have : ((w.alloc (.cells #[.int .u8 (x : Nat)] 5)).rowIs w.heap.size 5 1 (fun _ => .int .u8 (x : Nat))) := World.rowIs_alloc w #[.int .u8 (x : Nat)] 5 _ (fun i hi => by
    obtain rfl : i = 0 := by simpa using hi
    rfl)
  exact this.cell (by omega)
/-- One byte more. -/
theorem OL.add1 {w : World} {B : Nat} {a : Option Addr} {q c : Nat} {L : List Nat} (h : OL w B (.slice a q c) L) (hq : q = L.length) (hm : q ≤ 900000) (hB : B ≤ w.heap.size) (x : Nat) :
    ∃ a' c' w', (∀ ty, (Builtin.append_ #[33, 33] ty #[.slice a q c, .slice (some ⟨w.heap.size, 0, none⟩) 1 1]).run Try.prog (w.alloc (.cells #[.int .u8 ((x : Nat) : Int)] 5)) = .ok (.slice a' (q + 1) c') w') ∧ OL w' B (.slice a' (q + 1) c') (L ++ [x]) ∧ Below B w w' ∧ (∀ p, p < w.heap.size → (Value.slice a q c).ownBlock ≠ some p → w'.heap[p]? = w.heap[p]?) := by
  have hb : Below w.heap.size w (w.alloc (.cells #[.int .u8 ((x : Nat) : Int)] 5)) := (Below.refl _ _).alloc (Nat.le_refl _) _
  obtain ⟨v', w', hr, ho, hb2, hg⟩ := OL.app (w.alloc (.cells #[.int .u8 ((x : Nat) : Int)] 5)) B (.slice a q c) L [x] w.heap.size 0 1 1 rfl (by simp; omega) (by simp; omega) (h.below hb) (lit1P w x)
  obtain ⟨a', c', rfl⟩ := ho.form
  have el : (L ++ [x]).length = q + 1 := by rw [List.length_append, hq]; rfl
  rw [el] at hr ho
  exact ⟨a', c', w', hr, ho, (hb.mono hB).trans hb2, fun p hp hne => (hg.block p (by simp; omega) (fun e => hne e.symm)).trans (hb.block p hp)⟩
theorem OL.notBox {w : World} {B : Nat} {v : Value} {L : List Nat} (h : OL w B v L) {pb : Nat} {x y : Value} (hb : Box2 w pb 53 x y) : v.ownBlock ≠ some pb := fun e => by
  obtain ⟨hl, ⟨h1, h2⟩ | ⟨g', cap, cur, hv, hBB, hh, _⟩⟩ := h
  · rw [h1] at e
    cases e
  · rw [hv] at e
    have e2 : g' = pb := Option.some.inj e
    obtain ⟨cur', hh', _⟩ := hb
    rw [e2, hh'] at hh
    cases hh
set_option maxRecDepth 100000 in
set_option maxHeartbeats 4000000 in
theorem implSupBy_ok (z : Int) (a : Option Addr) (n c : Nat) (P : Nat → Plc) (r : ByteArray) (hok : SupOk z n P r) (hsl : SlP a n c) (w : World) (h : Els w 2 a n (pcF P)) :
    Calls Try.prog 13 #[.agg #[.int .i64 z, .slice a n c, .string r]] w fun e w' => (∃ a' c', e = .returned (.tuple #[.slice a' (supL z n P r).length c', .int .i64 0]) ∧ OL w' w.heap.size (.slice a' (supL z n P r).length c') (supL z n P r)) ∧ Below w.heap.size w w' := by
  have A0 : Hid (Below w.heap.size w (w.alloc (.cells #[.int .i64 z, .slice a n c, .string r] 29))) := (Below.refl _ _).alloc (Nat.le_refl _) _
  have X : Hid (Box3 (w.alloc (.cells #[.int .i64 z, .slice a n c, .string r] 29)) w.heap.size 29 (.int .i64 z) (.slice a n c) (.string r)) := Box3.made _ _ _ _ _
  have E0 : Hid (Els (w.alloc (.cells #[.int .i64 z, .slice a n c, .string r] 29)) 2 a n (pcF P)) := h.below A0.out
  have SK : Hid (Calls Try.prog 10 #[.agg #[.int .i64 z, .slice a n c, .string r]] (w.alloc (.cells #[.int .i64 z, .slice a n c, .string r] 29)) fun e w' => e = .returned (.bool true) ∧ Below (w.alloc (.cells #[.int .i64 z, .slice a n c, .string r] 29)).heap.size (w.alloc (.cells #[.int .i64 z, .slice a n c, .string r] 29)) w') := implSupOK_any z a n c P r hsl (by have := hok.n16; omega) _ E0.out true (gB_yes hok).symm
  have HO : Hid (SupOk z n P r) := hok
  have n16 := hok.n16
  have h32 : r.size = 32 := hok.1.2.2.2
  obtain ⟨m, rfl⟩ := Int.eq_ofNat_of_zero_le (show 0 ≤ z by have := hok.1.1; omega)
  have k0 := X.out.c0
  have k1 := X.out.c1
  have k2 := X.out.c2
  have SL : Hid ((supL (m : Int) n P r).length = 2 + 3 * n + 32) := by show _ = _; rw [supL_length, h32]
  have SM : Hid (supL (m : Int) n P r = numL 2 m ++ flatP P n ++ strL r) := rfl
  clear h hok hsl
  go_enter Try.func13, Try.ntmps13
  go_wp2_with fail
  clear k0 k1 k2
  generalize (w.alloc (.cells #[.int .i64 (m : Int), .slice a n c, .string r] 29)) = v at *
  obtain ⟨vb, hvb⟩ : ∃ x, x = w.heap.size := ⟨_, rfl⟩
  rw [← hvb] at X ⊢
  clear hvb
  refine SK.out.mono ?_
  rintro e v1 ⟨rfl, hb⟩
  have A1 : Hid (Below w.heap.size w v1) := A0.out.trans (hb.mono A0.out.size)
  have X1 : Hid (Box3 v1 vb 29 (.int .i64 (m : Int)) (.slice a n c) (.string r)) := X.out.below hb
  have E1 : Hid (Els v1 2 a n (pcF P)) := E0.out.below hb
  have k0 := X1.out.c0
  clear hb SK X E0 A0
  go_wp2_with fail
  clear k0
  refine (appendNumberO v1.heap.size none 0 0 m 2 [] rfl (by omega) (by simp) v1 (Nat.le_refl _) (OL.nil _ _)).mono ?_
  rintro e v2 ⟨⟨a2, c2, rfl, ho⟩, hb⟩
  have HB : Hid (Below v1.heap.size v1 v2) := hb
  have HR : Hid (OL v2 v1.heap.size (.slice a2 2 c2) (numL 2 m ++ flatP P 0)) := by show OL _ _ _ _; simpa [flatP] using ho
  have k1 := (X1.out.below hb).c1
  clear ho hb
  go_wp2
  clear k1
  go_loopw [4, 16] (fun s i wr => ∃ (k c3 : Nat) (a3 : Option Addr), k ≤ n ∧ i = .int .i64 k ∧ s = .slice a3 (2 + 3 * k) c3 ∧ OL wr v1.heap.size (.slice a3 (2 + 3 * k) c3) (numL 2 m ++ flatP P k) ∧ Below v1.heap.size v1 wr) (fun _ i _ => n - (intOf i).toNat)
  case atStart => exact ⟨0, c2, a2, by omega, rfl, rfl, HR.out, HB.out⟩
  case round =>
    clear HR HB
    obtain ⟨k, c3, a3, hk, rfl, rfl, ho, hb⟩ := hrel
    have HB : Hid (Below v1.heap.size v1 wr) := hb
    by_cases hlt : k < n
    · have hlt' : (k : Int) < (n : Int) := by omega
      have k0 : (0 : Int) ≤ (k : Int) := by omega
      have kb : (k : Int) ≤ 16 := by omega
      have HK : Hid (k < n) := hlt
      have hpl := (HO.out.2 k hlt).1
      obtain ⟨b, off, rfl, hc⟩ := (E1.out.below hb).opened (by omega)
      have d0 : wr.cell? ⟨b, off + k * 2, none⟩ = some (.int .i64 (P k).bk) := hc k hlt 0 (by omega)
      have d1 : wr.cell? ⟨b, off + k * 2 + 1, none⟩ = some (.int .i64 (P k).vs) := hc k hlt 1 (by omega)
      obtain ⟨x, hx⟩ := Int.eq_ofNat_of_zero_le (show 0 ≤ (P k).bk by have := hpl.1.1; omega)
      obtain ⟨y, hy⟩ := Int.eq_ofNat_of_zero_le (show 0 ≤ (P k).vs by have := hpl.2.1; omega)
      have EF : Hid (flatP P (k + 1) = flatP P k ++ ([x] ++ numL 2 y)) := by show flatP P k ++ plL (P k) = _; unfold plL; rw [hx, hy]; rfl
      rw [hx] at d0
      rw [hy] at d1
      have x256 : (x : Int) % 256 = (x : Int) := by have := hpl.1.2; omega
      have hb2 : Below wr.heap.size wr (wr.alloc (.cells #[.int .i64 (x : Int), .int .i64 (y : Int)] 53)) := (Below.refl _ _).alloc (Nat.le_refl _) _
      have B2 : Hid (Box2 (wr.alloc (.cells #[.int .i64 (x : Int), .int .i64 (y : Int)] 53)) wr.heap.size 53 (.int .i64 (x : Int)) (.int .i64 (y : Int))) := Box2.made _ _ _ _
      have O2 : Hid (OL (wr.alloc (.cells #[.int .i64 (x : Int), .int .i64 (y : Int)] 53)) v1.heap.size (.slice a3 (2 + 3 * k) c3) (numL 2 m ++ flatP P k)) := ho.below hb2
      have HB2 : Hid (Below v1.heap.size v1 (wr.alloc (.cells #[.int .i64 (x : Int), .int .i64 (y : Int)] 53))) := hb.trans (hb2.mono hb.size)
      have HLN : Hid (2 + 3 * k = (numL 2 m ++ flatP P k).length) := by show _ = _; rw [List.length_append, numL_length, flatP_length]
      clear ho hb hb2 hc hpl hx hy hlt hk
      go_upto_region 7 with fail
      clear d0 d1
      generalize (wr.alloc (.cells #[.int .i64 (x : Int), .int .i64 (y : Int)] 53)) = v3 at *
      generalize wr.heap.size = pb at *
      obtain ⟨a4, c4, v4, hr4, ho4, hb4, kp4⟩ := O2.out.add1 HLN.out (by omega) HB2.out.size x
      have l0 := B2.out.c0
      have O4 : Hid (OL v4 v1.heap.size (.slice a4 (2 + 3 * k + 1) c4) (numL 2 m ++ flatP P k ++ [x])) := ho4
      have HB4 : Hid (Below v1.heap.size v1 v4) := HB2.out.trans hb4
      have l1 : v4.cell? ⟨pb, 1, none⟩ = some (.int .i64 (y : Int)) := (B2.out.ofBlock (kp4 pb B2.out.lt (O2.out.notBox B2.out))).c1
      have HL4 : Hid (2 + 3 * k + 1 = (numL 2 m ++ flatP P k ++ [x]).length) := by show _ = _; rw [List.length_append, ← HLN.out]; rfl
      have AN : Hid (Calls Try.prog 36 #[.slice a4 (2 + 3 * k + 1) c4, .int .i64 (y : Int), .int .i64 2] v4 fun e w' => (∃ a' c', e = .returned (.slice a' (2 + 3 * k + 1 + 2) c') ∧ OL w' v1.heap.size (.slice a' (2 + 3 * k + 1 + 2) c') (numL 2 m ++ flatP P k ++ [x] ++ numL 2 y)) ∧ Below v1.heap.size v4 w') := appendNumberO v1.heap.size a4 (2 + 3 * k + 1) c4 y 2 (numL 2 m ++ flatP P k ++ [x]) HL4.out (by omega) (by rw [← HL4.out]; omega) v4 HB4.out.size O4.out
      clear ho4 hb4 kp4 HB2 O2 B2
      go_wp2_with (at_builtin; refine Lib.wpList_append_run _ rfl (.tmp 20) (.tmp 24) 33 33 rfl (.slice a3 (2 + 3 * k) c3) (.slice (some ⟨v3.heap.size, 0, none⟩) 1 1) rfl rfl _ _ (hr4 _) ?_)
      refine AN.out.mono ?_
      rintro e v5 ⟨⟨a5, c5, rfl, ho⟩, hb⟩
      have O5 : Hid (OL v5 v1.heap.size (.slice a5 (2 + 3 * (k + 1)) c5) (numL 2 m ++ flatP P (k + 1))) := by
        show OL _ _ _ _
        rw [EF.out]
        have e1 : 2 + 3 * k + 1 + 2 = 2 + 3 * (k + 1) := by omega
        rw [e1] at ho
        simpa only [List.append_assoc] using ho
      have HB5 : Hid (Below v1.heap.size v1 v5) := HB4.out.trans hb
      clear ho hb AN O4 HB4 l0 l1 hr4
      go_wp2
      go_roundw
      case rel => exact ⟨k + 1, c5, a5, by have := HK.out; omega, by go_num, rfl, O5.out, HB5.out⟩
      case measure => have := HK.out; simp [intOf]; omega
    · obtain rfl : k = n := by omega
      have x2 := (X1.out.below hb).c2
      obtain ⟨v3, w3, hr3, ho3, hb3, _⟩ := OL.appS wr v1.heap.size (.slice a3 (2 + 3 * k) c3) (numL 2 m ++ flatP P k) r hb.size (by rw [List.length_append, numL_length, flatP_length]; omega) ho
      obtain ⟨a4, c4, rfl⟩ := ho3.form
      rw [← SM.out] at hr3 ho3
      have O3 : Hid (OL w3 w.heap.size (.slice a4 (supL (m : Int) k P r).length c4) (supL (m : Int) k P r)) := ho3.mono A1.out.size
      have B3 : Hid (Below w.heap.size w w3) := A1.out.trans ((hb.trans hb3).mono A1.out.size)
      clear ho hb ho3 hb3 HB hlt hk SL SM
      go_wp2_with (at_builtin; refine Lib.wpList_append_run _ rfl (.tmp 31) (.tmp 33) 33 9 rfl (.slice a3 (2 + 3 * k) c3) (.string r) rfl rfl _ _ (hr3 _) ?_)
      exact bodyPost_ret (results_tmp2 Try.results13 _ _ _) rfl ⟨⟨a4, c4, rfl, O3.out⟩, B3.out⟩
set_option maxRecDepth 100000 in
theorem implSupBy_no (z : Int) (a : Option Addr) (n c : Nat) (P : Nat → Plc) (r : ByteArray) (hok : ¬ SupOk z n P r) (hsl : SlP a n c) (hn : n ≤ 1048576) (w : World) (h : Els w 2 a n (pcF P)) :
    Calls Try.prog 13 #[.agg #[.int .i64 z, .slice a n c, .string r]] w fun e w' => e = .returned (.tuple #[.slice none 0 0, .int .i64 1]) ∧ Below w.heap.size w w' := by
  have A0 : Hid (Below w.heap.size w (w.alloc (.cells #[.int .i64 z, .slice a n c, .string r] 29))) := (Below.refl _ _).alloc (Nat.le_refl _) _
  have X : Hid (Box3 (w.alloc (.cells #[.int .i64 z, .slice a n c, .string r] 29)) w.heap.size 29 (.int .i64 z) (.slice a n c) (.string r)) := Box3.made _ _ _ _ _
  have SK : Hid (Calls Try.prog 10 #[.agg #[.int .i64 z, .slice a n c, .string r]] (w.alloc (.cells #[.int .i64 z, .slice a n c, .string r] 29)) fun e w' => e = .returned (.bool false) ∧ Below (w.alloc (.cells #[.int .i64 z, .slice a n c, .string r] 29)).heap.size (w.alloc (.cells #[.int .i64 z, .slice a n c, .string r] 29)) w') := implSupOK_any z a n c P r hsl hn _ (h.below A0.out) false (gB_no hok).symm
  have k0 := X.out.c0
  have k1 := X.out.c1
  have k2 := X.out.c2
  clear h hok hsl hn
  go_enter Try.func13, Try.ntmps13
  go_wp2_with fail
  clear k0 k1 k2
  generalize (w.alloc (.cells #[.int .i64 z, .slice a n c, .string r] 29)) = v at *
  refine SK.out.mono ?_
  rintro e v1 ⟨rfl, hb⟩
  have A1 : Hid (Below w.heap.size w v1) := A0.out.trans (hb.mono A0.out.size)
  clear hb SK X A0
  go_wp2
  exact bodyPost_ret (results_tmp2 Try.results13 _ _ _) rfl ⟨rfl, A1.out⟩
theorem l08TwoO (k : Nat) (hk : k ≤ 65535) (w : World) :
    Calls Try.prog 49 #[.int .i64 (k : Int)] w fun e w' => (e = .returned (.slice (some ⟨w.heap.size, 0, none⟩) 2 2) ∧ RL w' w.heap.size w.heap.size 2 (numL 2 k)) ∧ Below w.heap.size w w' := by
  have HK : Hid (lv (numL 2 k) = [.int .u8 ((k : Int) / 256), .int .u8 ((k : Int) % 256)]) := by
    show _ = _
    unfold numL numP lv
    simp [List.range, List.range.loop]
    omega
  go_enter Try.func49, Try.ntmps49
  go_wp2
  go_ret
  exact ⟨⟨rfl, RL.made w _ (numL 2 k) 2 (numL_length 2 k) (by omega) HK.out.symm⟩, (Below.refl _ _).alloc (Nat.le_refl _) _⟩
set_option maxRecDepth 100000 in
set_option maxHeartbeats 4000000 in
theorem l12Bytes_any (z : Int) (a : Option Addr) (n c : Nat) (P : Nat → Plc) (r : ByteArray) (hok : SupOk z n P r) (w : World) (h : Els w 2 a n (pcF P)) :
    Calls Try.prog 35 #[.agg #[.int .i64 z, .slice a n c, .string r]] w fun e w' => (∃ a' c', e = .returned (.slice a' (supL z n P r).length c') ∧ OL w' w.heap.size (.slice a' (supL z n P r).length c') (supL z n P r)) ∧ Below w.heap.size w w' := by
  have A0 : Hid (Below w.heap.size w (w.alloc (.cells #[.int .i64 z, .slice a n c, .string r] 29))) := (Below.refl _ _).alloc (Nat.le_refl _) _
  have X : Hid (Box3 (w.alloc (.cells #[.int .i64 z, .slice a n c, .string r] 29)) w.heap.size 29 (.int .i64 z) (.slice a n c) (.string r)) := Box3.made _ _ _ _ _
  have E0 : Hid (Els (w.alloc (.cells #[.int .i64 z, .slice a n c, .string r] 29)) 2 a n (pcF P)) := h.below A0.out
  have HO : Hid (SupOk z n P r) := hok
  have n16 := hok.n16
  have h32 : r.size = 32 := hok.1.2.2.2
  obtain ⟨m, rfl⟩ := Int.eq_ofNat_of_zero_le (show 0 ≤ z by have := hok.1.1; omega)
  have TW : Hid (∀ (k : Nat), k ≤ 65535 → ∀ w : World, Calls Try.prog 49 #[.int .i64 (k : Int)] w fun e w' => (e = .returned (.slice (some ⟨w.heap.size, 0, none⟩) 2 2) ∧ RL w' w.heap.size w.heap.size 2 (numL 2 k)) ∧ Below w.heap.size w w') := l08TwoO
  have hm : m ≤ 65535 := by have := hok.1.2.1; omega
  have SM : Hid (supL (m : Int) n P r = numL 2 m ++ flatP P n ++ strL r) := rfl
  clear h hok
  go_enter Try.func35, Try.ntmps35
  go_wp2_with fail
  generalize (w.alloc (.cells #[.int .i64 (m : Int), .slice a n c, .string r] 29)) = v at *
  obtain ⟨vb, hvb⟩ : ∃ x, x = w.heap.size := ⟨_, rfl⟩
  rw [← hvb] at X ⊢
  clear hvb
  refine (TW.out m hm _).mono ?_
  rintro e v2 ⟨⟨rfl, hr⟩, hb⟩
  have HB : Hid (Below v.heap.size v v2) := hb
  have HR : Hid (OL v2 v.heap.size (.slice (some ⟨v.heap.size, 0, none⟩) 2 2) (numL 2 m ++ flatP P 0)) := by
    show OL _ _ _ _
    have := hr.ol
    rw [numL_length] at this
    simpa [flatP] using this
  clear hr hb hm
  generalize hvz : (some (⟨v.heap.size, 0, none⟩ : Addr)) = az at *
  clear hvz
  go_wp2
  go_loopw [3, 4] (fun s i wr => ∃ (k c3 : Nat) (a3 : Option Addr), k ≤ n ∧ i = .int .i64 k ∧ s = .slice a3 (2 + 3 * k) c3 ∧ OL wr v.heap.size (.slice a3 (2 + 3 * k) c3) (numL 2 m ++ flatP P k) ∧ Below v.heap.size v wr) (fun _ i _ => n - (intOf i).toNat)
  case atStart => exact ⟨0, 2, az, by omega, rfl, rfl, HR.out, HB.out⟩
  case round =>
    clear HR HB
    obtain ⟨k, c3, a3, hk, rfl, rfl, ho, hb⟩ := hrel
    have HB : Hid (Below v.heap.size v wr) := hb
    have x1 := (X.out.below hb).c1
    by_cases hlt : k < n
    · have hlt' : (k : Int) < (n : Int) := by omega
      have k0 : (0 : Int) ≤ (k : Int) := by omega
      have kb : (k : Int) ≤ 16 := by omega
      have HK : Hid (k < n) := hlt
      have hpl := (HO.out.2 k hlt).1
      obtain ⟨b, off, rfl, hc⟩ := E0.out.opened (by omega)
      have d0 : v.cell? ⟨b, off + k * 2, none⟩ = some (.int .i64 (P k).bk) := hc k hlt 0 (by omega)
      have d1 : v.cell? ⟨b, off + k * 2 + 1, none⟩ = some (.int .i64 (P k).vs) := hc k hlt 1 (by omega)
      obtain ⟨x, hx⟩ := Int.eq_ofNat_of_zero_le (show 0 ≤ (P k).bk by have := hpl.1.1; omega)
      obtain ⟨y, hy⟩ := Int.eq_ofNat_of_zero_le (show 0 ≤ (P k).vs by have := hpl.2.1; omega)
      have EF : Hid (flatP P (k + 1) = flatP P k ++ ([x] ++ numL 2 y)) := by show flatP P k ++ plL (P k) = _; unfold plL; rw [hx, hy]; rfl
      rw [hx] at d0
      rw [hy] at d1
      have T2 : Hid (∀ w : World, Calls Try.prog 49 #[.int .i64 (y : Int)] w fun e w' => (e = .returned (.slice (some ⟨w.heap.size, 0, none⟩) 2 2) ∧ RL w' w.heap.size w.heap.size 2 (numL 2 y)) ∧ Below w.heap.size w w') := TW.out y (by have := hpl.2.2; omega)
      have x256 : (x : Int) % 256 = (x : Int) := by have := hpl.1.2; omega
      have xw : IntKind.u8.wrap (x : Int) = (x : Int) := IntWalk.u8_in _ (by have := hpl.1.2; omega)
      have HR : Hid (OL wr v.heap.size (.slice a3 (2 + 3 * k) c3) (numL 2 m ++ flatP P k)) := ho
      have HLN : Hid (2 + 3 * k = (numL 2 m ++ flatP P k).length) := by show _ = _; rw [List.length_append, numL_length, flatP_length]
      have D0 : Hid (v.cell? ⟨b, off + k * 2, none⟩ = some (.int .i64 (x : Int))) := d0
      have D1 : Hid (v.cell? ⟨b, off + k * 2 + 1, none⟩ = some (.int .i64 (y : Int))) := d1
      clear ho hb hc hpl hx hy hlt hk d0 d1
      go_wp2_with fail
      clear x1
      have H : Below v.heap.size v wr.drew := HB.out.drew
      have O0 : Hid (OL wr.drew v.heap.size (.slice a3 (2 + 3 * k) c3) (numL 2 m ++ flatP P k)) := HR.out.below ((Below.refl _ _).drew)
      refine wp_region_noPanic ?_
      refine wp_region_held_drew (S := fun w' => Below v.heap.size v w') (by kernel_rfl) H (fun _ => ?_)
      generalize wr.drew = x0 at *
      refine wpAnyH_take (i := 0) (v := .slice a3 (2 + 3 * k) c3) rfl (by kernel_rfl) (by kernel_rfl) (by kernel_rfl) (fun _ _ _ h => h) (Or.inl ⟨by rfl, ?_⟩) H ?_
      · intro w' hSw; clear hSw; go_simp
      change wpAnyH _ _ _ _ _ _ _ { tmps := #[_, _, _, _, _, _, _, _, _, _, _, _, _, _, _, _, _, _, _, _, _, _, _, _, _, _, _, _, _, _, _, _, _, _, _, _, _], defers := _ } _
      refine wpAnyH_take (i := 1) (v := .pointer (some ⟨vb, 1, none⟩)) rfl (by kernel_rfl) (by kernel_rfl) (by kernel_rfl) (fun _ _ _ h => h) (Or.inl ⟨by rfl, ?_⟩) H ?_
      · intro w' hSw; clear hSw; go_simp
      change wpAnyH _ _ _ _ _ _ _ { tmps := #[_, _, _, _, _, _, _, _, _, _, _, _, _, _, _, _, _, _, _, _, _, _, _, _, _, _, _, _, _, _, _, _, _, _, _, _, _], defers := _ } _
      refine wpAnyH_take (i := 2) (v := .slice (some ⟨b, off, none⟩) n c) rfl (by kernel_rfl) (by kernel_rfl) (by kernel_rfl) (fun _ _ _ h => h) (Or.inl ⟨by rfl, ?_⟩) H ?_
      · intro w' hSw; have q0 := (X.out.below hSw).c1; clear hSw; go_simp
      change wpAnyH _ _ _ _ _ _ _ { tmps := #[_, _, _, _, _, _, _, _, _, _, _, _, _, _, _, _, _, _, _, _, _, _, _, _, _, _, _, _, _, _, _, _, _, _, _, _, _], defers := _ } _
      refine wpAnyH_take (i := 3) (v := .int .i64 (k : Int)) rfl (by kernel_rfl) (by kernel_rfl) (by kernel_rfl) (fun _ _ _ h => h) (Or.inl ⟨by rfl, ?_⟩) H ?_
      · intro w' hSw; clear hSw; go_simp
      change wpAnyH _ _ _ _ _ _ _ { tmps := #[_, _, _, _, _, _, _, _, _, _, _, _, _, _, _, _, _, _, _, _, _, _, _, _, _, _, _, _, _, _, _, _, _, _, _, _, _], defers := _ } _
      refine wpAnyH_take (i := 4) (v := .pointer (some ⟨b, off + k * 2, none⟩)) rfl (by kernel_rfl) (by kernel_rfl) (by kernel_rfl) (fun _ _ _ h => h) (Or.inl ⟨by rfl, ?_⟩) H ?_
      · intro w' hSw; clear hSw; go_simp
      change wpAnyH _ _ _ _ _ _ _ { tmps := #[_, _, _, _, _, _, _, _, _, _, _, _, _, _, _, _, _, _, _, _, _, _, _, _, _, _, _, _, _, _, _, _, _, _, _, _, _], defers := _ } _
      refine wpAnyH_take (i := 5) (v := .pointer (some ⟨b, off + k * 2, none⟩)) rfl (by kernel_rfl) (by kernel_rfl) (by kernel_rfl) (fun _ _ _ h => h) (Or.inl ⟨by rfl, ?_⟩) H ?_
      · intro w' hSw; clear hSw; go_simp
      change wpAnyH _ _ _ _ _ _ _ { tmps := #[_, _, _, _, _, _, _, _, _, _, _, _, _, _, _, _, _, _, _, _, _, _, _, _, _, _, _, _, _, _, _, _, _, _, _, _, _], defers := _ } _
      refine wpAnyH_take (i := 6) (v := .int .i64 (x : Int)) rfl (by kernel_rfl) (by kernel_rfl) (by kernel_rfl) (fun _ _ _ h => h) (Or.inl ⟨by rfl, ?_⟩) H ?_
      · intro w' hSw; have q0 := (hSw.cell (strBlock D0.out)).trans D0.out; clear hSw; go_simp
      change wpAnyH _ _ _ _ _ _ _ { tmps := #[_, _, _, _, _, _, _, _, _, _, _, _, _, _, _, _, _, _, _, _, _, _, _, _, _, _, _, _, _, _, _, _, _, _, _, _, _], defers := _ } _
      refine wpAnyH_take (i := 7) (v := .int .u8 (x : Int)) rfl (by kernel_rfl) (by kernel_rfl) (by kernel_rfl) (fun _ _ _ h => h) (Or.inl ⟨by rfl, ?_⟩) H ?_
      · intro w' hSw; clear hSw; go_simp
      change wpAnyH _ _ _ _ _ _ _ { tmps := #[_, _, _, _, _, _, _, _, _, _, _, _, _, _, _, _, _, _, _, _, _, _, _, _, _, _, _, _, _, _, _, _, _, _, _, _, _], defers := _ } _
      refine wpAnyH_take (i := 10) (v := .pointer (some ⟨vb, 1, none⟩)) rfl (by kernel_rfl) (by kernel_rfl) (by kernel_rfl) (fun _ _ _ h => h) (Or.inl ⟨by rfl, ?_⟩) H ?_
      · intro w' hSw; clear hSw; go_simp
      change wpAnyH _ _ _ _ _ _ _ { tmps := #[_, _, _, _, _, _, _, _, _, _, _, _, _, _, _, _, _, _, _, _, _, _, _, _, _, _, _, _, _, _, _, _, _, _, _, _, _], defers := _ } _
      refine wpAnyH_take (i := 11) (v := .slice (some ⟨b, off, none⟩) n c) rfl (by kernel_rfl) (by kernel_rfl) (by kernel_rfl) (fun _ _ _ h => h) (Or.inl ⟨by rfl, ?_⟩) H ?_
      · intro w' hSw; have q0 := (X.out.below hSw).c1; clear hSw; go_simp
      change wpAnyH _ _ _ _ _ _ _ { tmps := #[_, _, _, _, _, _, _, _, _, _, _, _, _, _, _, _, _, _, _, _, _, _, _, _, _, _, _, _, _, _, _, _, _, _, _, _, _], defers := _ } _
      refine wpAnyH_take (i := 12) (v := .int .i64 (k : Int)) rfl (by kernel_rfl) (by kernel_rfl) (by kernel_rfl) (fun _ _ _ h => h) (Or.inl ⟨by rfl, ?_⟩) H ?_
      · intro w' hSw; clear hSw; go_simp
      change wpAnyH _ _ _ _ _ _ _ { tmps := #[_, _, _, _, _, _, _, _, _, _, _, _, _, _, _, _, _, _, _, _, _, _, _, _, _, _, _, _, _, _, _, _, _, _, _, _, _], defers := _ } _
      refine wpAnyH_take (i := 13) (v := .pointer (some ⟨b, off + k * 2, none⟩)) rfl (by kernel_rfl) (by kernel_rfl) (by kernel_rfl) (fun _ _ _ h => h) (Or.inl ⟨by rfl, ?_⟩) H ?_
      · intro w' hSw; clear hSw; go_simp
      change wpAnyH _ _ _ _ _ _ _ { tmps := #[_, _, _, _, _, _, _, _, _, _, _, _, _, _, _, _, _, _, _, _, _, _, _, _, _, _, _, _, _, _, _, _, _, _, _, _, _], defers := _ } _
      refine wpAnyH_take (i := 14) (v := .pointer (some ⟨b, off + k * 2 + 1, none⟩)) rfl (by kernel_rfl) (by kernel_rfl) (by kernel_rfl) (fun _ _ _ h => h) (Or.inl ⟨by rfl, ?_⟩) H ?_
      · intro w' hSw; clear hSw; go_simp
      change wpAnyH _ _ _ _ _ _ _ { tmps := #[_, _, _, _, _, _, _, _, _, _, _, _, _, _, _, _, _, _, _, _, _, _, _, _, _, _, _, _, _, _, _, _, _, _, _, _, _], defers := _ } _
      refine wpAnyH_take (i := 15) (v := .int .i64 (y : Int)) rfl (by kernel_rfl) (by kernel_rfl) (by kernel_rfl) (fun _ _ _ h => h) (Or.inl ⟨by rfl, ?_⟩) H ?_
      · intro w' hSw; have q0 := (hSw.cell (strBlock D1.out)).trans D1.out; clear hSw; go_simp
      change wpAnyH _ _ _ _ _ _ _ { tmps := #[_, _, _, _, _, _, _, _, _, _, _, _, _, _, _, _, _, _, _, _, _, _, _, _, _, _, _, _, _, _, _, _, _, _, _, _, _], defers := _ } _
      obtain ⟨a4, c4, v4, hr4, ho4, hb4, _⟩ := O0.out.add1 HLN.out (by omega) H.size x
      have O4 : Hid (OL v4 v.heap.size (.slice a4 (2 + 3 * k + 1) c4) (numL 2 m ++ flatP P k ++ [x])) := ho4
      have H1 : Below v.heap.size v (x0.alloc (.cells #[.int .u8 ((x : Nat) : Int)] 5)) := H.trans (((Below.refl _ _).alloc (Nat.le_refl _) _).mono H.size)
      have H2 : Below v.heap.size v v4 := H.trans hb4
      clear ho4 hb4
      refine wpAnyH_ready (rs := [8]) (by kernel_rfl) (by simp) ?_
      refine AllReadyH.cons rfl (fun KK hK => ?_) AllReadyH.nil
      go_simp
      refine hK.out _ _ H1 (fun _ => ?_)
      clear hK KK
      change wpAnyH _ _ _ _ _ _ _ { tmps := #[_, _, _, _, _, _, _, _, _, _, _, _, _, _, _, _, _, _, _, _, _, _, _, _, _, _, _, _, _, _, _, _, _, _, _, _, _], defers := _ } _
      refine wpAnyH_ready (rs := [9]) (by kernel_rfl) (by simp) ?_
      refine AllReadyH.cons rfl (fun KK hK => ?_) AllReadyH.nil
      rw [if_pos (by rfl)]
      refine Lib.wp_append_run _ (.tmp 15) (.tmp 23) 33 33 rfl (.slice a3 (2 + 3 * k) c3) (.slice (some ⟨x0.heap.size, 0, none⟩) 1 1) rfl rfl _ _ (hr4 _) ?_
      refine hK.out _ _ H2 (fun _ => ?_)
      clear hK KK
      change wpAnyH _ _ _ _ _ _ _ { tmps := #[_, _, _, _, _, _, _, _, _, _, _, _, _, _, _, _, _, _, _, _, _, _, _, _, _, _, _, _, _, _, _, _, _, _, _, _, _], defers := _ } _
      refine wpAnyH_ready (rs := [16]) (by kernel_rfl) (by simp) ?_
      refine AllReadyH.cons rfl (fun KK hK => ?_) AllReadyH.nil
      go_simp
      refine (T2.out _).mono ?_
      rintro e v5 ⟨⟨rfl, hrl⟩, hb⟩
      have H3 : Below v.heap.size v v5 := H2.trans (hb.mono H2.size)
      obtain ⟨w6, v6, hr6, ho6, hb6, _⟩ := OL.app v5 v.heap.size (.slice a4 (2 + 3 * k + 1) c4) (numL 2 m ++ flatP P k ++ [x]) (numL 2 y) v4.heap.size 0 2 2 (numL_length 2 y).symm H3.size (by rw [numL_length, List.length_append, ← HLN.out]; simp; omega) (O4.out.below hb) (fun j hj => by rw [Nat.zero_add]; exact hrl.cell j hj)
      obtain ⟨a6, c6, rfl⟩ := ho6.form
      have el : (numL 2 m ++ flatP P k ++ [x] ++ numL 2 y).length = 2 + 3 * (k + 1) := by rw [List.length_append, List.length_append, ← HLN.out, numL_length]; rfl
      rw [el] at hr6 ho6
      have O6 : Hid (OL v6 v.heap.size (.slice a6 (2 + 3 * (k + 1)) c6) (numL 2 m ++ flatP P (k + 1))) := by
        show OL _ _ _ _
        rw [EF.out]
        simpa only [List.append_assoc] using ho6
      have H4 : Below v.heap.size v v6 := H3.trans hb6
      clear hrl hb ho6 hb6 el
      generalize v4.heap.size = g4 at *
      refine hK.out _ _ H3 (fun _ => ?_)
      clear hK KK
      change wpAnyH _ _ _ _ _ _ _ { tmps := #[_, _, _, _, _, _, _, _, _, _, _, _, _, _, _, _, _, _, _, _, _, _, _, _, _, _, _, _, _, _, _, _, _, _, _, _, _], defers := _ } _
      refine wpAnyH_ready (rs := [17]) (by kernel_rfl) (by simp) ?_
      refine AllReadyH.cons rfl (fun KK hK => ?_) AllReadyH.nil
      rw [if_pos (by rfl)]
      refine Lib.wp_append_run _ (.tmp 24) (.tmp 31) 33 33 rfl (.slice a4 (2 + 3 * k + 1) c4) (.slice (some ⟨g4, 0, none⟩) 2 2) rfl rfl _ _ (hr6 _) ?_
      refine hK.out _ _ H4 (fun _ => ?_)
      clear hK KK
      change wpAnyH _ _ _ _ _ _ _ { tmps := #[_, _, _, _, _, _, _, _, _, _, _, _, _, _, _, _, _, _, _, _, _, _, _, _, _, _, _, _, _, _, _, _, _, _, _, _, _], defers := _ } _
      refine wpAnyH_take (i := 18) (v := .slice a6 (2 + 3 * (k + 1)) c6) rfl (by kernel_rfl) (by kernel_rfl) (by kernel_rfl) (fun _ _ _ h => h) (Or.inl ⟨by rfl, ?_⟩) H4 ?_
      · intro w' hSw; clear hSw; go_simp
      change wpAnyH _ _ _ _ _ _ _ { tmps := #[_, _, _, _, _, _, _, _, _, _, _, _, _, _, _, _, _, _, _, _, _, _, _, _, _, _, _, _, _, _, _, _, _, _, _, _, _], defers := _ } _
      refine wpAnyH_done (by kernel_rfl) ?_ _
      refine NoPanic.normal ?_
      have B6 : Hid (Below v.heap.size v v6) := H4
      clear H H1 H2 H3 H4 O0 O4 hr4 hr6 HR HB D0 D1
      go_wp2
      go_roundw
      case rel => exact ⟨k + 1, c6, a6, by have := HK.out; omega, by go_num, rfl, O6.out, B6.out⟩
      case measure => have := HK.out; simp [intOf]; omega
    · obtain rfl : k = n := by omega
      have x2 := (X.out.below hb).c2
      obtain ⟨v3, w3, hr3, ho3, hb3, _⟩ := OL.appS wr v.heap.size (.slice a3 (2 + 3 * k) c3) (numL 2 m ++ flatP P k) r hb.size (by rw [List.length_append, numL_length, flatP_length]; omega) ho
      obtain ⟨a4, c4, rfl⟩ := ho3.form
      rw [← SM.out] at hr3 ho3
      have O3 : Hid (OL w3 w.heap.size (.slice a4 (supL (m : Int) k P r).length c4) (supL (m : Int) k P r)) := ho3.mono A0.out.size
      have B3 : Hid (Below w.heap.size w w3) := A0.out.trans ((hb.trans hb3).mono A0.out.size)
      clear ho hb ho3 hb3 HB hlt hk SM
      go_wp2_with (at_builtin; refine Lib.wpList_append_run _ rfl (.tmp 33) (.tmp 35) 33 9 rfl (.slice a3 (2 + 3 * k) c3) (.string r) rfl rfl _ _ (hr3 _) ?_)
      go_ret
      exact ⟨⟨a4, c4, rfl, O3.out⟩, B3.out⟩
set_option maxRecDepth 100000 in
theorem specSupBy_any (z : Int) (a : Option Addr) (n c : Nat) (P : Nat → Plc) (r : ByteArray) (hn : n ≤ 1048576) (L : List Nat) (cd : Int) (hA : (¬ SupOk z n P r ∧ cd = 1 ∧ L = []) ∨ (SupOk z n P r ∧ cd = 0 ∧ L = supL z n P r)) (w : World) (h : Els w 2 a n (pcF P)) :
    Calls Try.prog 12 #[.agg #[.int .i64 z, .slice a n c, .string r]] w fun e w' => (∃ a' c', e = .returned (.tuple #[.slice a' L.length c', .int .i64 cd]) ∧ OL w' w.heap.size (.slice a' L.length c') L) ∧ Below w.heap.size w w' := by
  have A0 : Hid (Below w.heap.size w (w.alloc (.cells #[.int .i64 z, .slice a n c, .string r] 29))) := (Below.refl _ _).alloc (Nat.le_refl _) _
  have X : Hid (Box3 (w.alloc (.cells #[.int .i64 z, .slice a n c, .string r] 29)) w.heap.size 29 (.int .i64 z) (.slice a n c) (.string r)) := Box3.made _ _ _ _ _
  have E0 : Hid (Els (w.alloc (.cells #[.int .i64 z, .slice a n c, .string r] 29)) 2 a n (pcF P)) := h.below A0.out
  have k0 := X.out.c0
  have k1 := X.out.c1
  have k2 := X.out.c2
  rcases hA with ⟨hok, rfl, rfl⟩ | ⟨hok, rfl, rfl⟩
  · have SK : Hid (Calls Try.prog 8 #[.agg #[.int .i64 z, .slice a n c, .string r]] (w.alloc (.cells #[.int .i64 z, .slice a n c, .string r] 29)) fun e w' => e = .returned (.bool false) ∧ Below (w.alloc (.cells #[.int .i64 z, .slice a n c, .string r] 29)).heap.size (w.alloc (.cells #[.int .i64 z, .slice a n c, .string r] 29)) w') := specSupOK_any z a n c P r hn _ E0.out false (gB_no hok).symm
    clear h hok hn
    go_enter Try.func12, Try.ntmps12
    go_wp2_with fail
    clear k0 k1 k2
    generalize (w.alloc (.cells #[.int .i64 z, .slice a n c, .string r] 29)) = v at *
    refine SK.out.mono ?_
    rintro e v1 ⟨rfl, hb⟩
    have A1 : Hid (Below w.heap.size w v1) := A0.out.trans (hb.mono A0.out.size)
    clear hb SK X A0 E0
    go_wp2
    exact bodyPost_ret (results_tmp2 Try.results12 _ _ _) rfl ⟨⟨_, 0, rfl, OL.lit _ _ A1.out.size⟩, A1.out.trans (((Below.refl _ _).alloc (Nat.le_refl _) _).mono A1.out.size)⟩
  · have SK : Hid (Calls Try.prog 8 #[.agg #[.int .i64 z, .slice a n c, .string r]] (w.alloc (.cells #[.int .i64 z, .slice a n c, .string r] 29)) fun e w' => e = .returned (.bool true) ∧ Below (w.alloc (.cells #[.int .i64 z, .slice a n c, .string r] 29)).heap.size (w.alloc (.cells #[.int .i64 z, .slice a n c, .string r] 29)) w') := specSupOK_any z a n c P r hn _ E0.out true (gB_yes hok).symm
    have LB : Hid (∀ w : World, Els w 2 a n (pcF P) → Calls Try.prog 35 #[.agg #[.int .i64 z, .slice a n c, .string r]] w fun e w' => (∃ a' c', e = .returned (.slice a' (supL z n P r).length c') ∧ OL w' w.heap.size (.slice a' (supL z n P r).length c') (supL z n P r)) ∧ Below w.heap.size w w') := fun w h => l12Bytes_any z a n c P r hok w h
    clear h hok hn
    go_enter Try.func12, Try.ntmps12
    go_wp2_with fail
    clear k0 k1 k2
    generalize (w.alloc (.cells #[.int .i64 z, .slice a n c, .string r] 29)) = v at *
    obtain ⟨vb, hvb⟩ : ∃ x, x = w.heap.size := ⟨_, rfl⟩
    rw [← hvb] at X ⊢
    clear hvb
    refine SK.out.mono ?_
    rintro e v1 ⟨rfl, hb⟩
    have A1 : Hid (Below w.heap.size w v1) := A0.out.trans (hb.mono A0.out.size)
    have E1 : Hid (Els v1 2 a n (pcF P)) := E0.out.below hb
    have k0 := (X.out.below hb).c0
    have k1 := (X.out.below hb).c1
    have k2 := (X.out.below hb).c2
    clear hb SK X A0 E0
    go_wp2_with fail
    refine (LB.out _ E1.out).mono ?_
    rintro e v2 ⟨⟨a', c', rfl, ho⟩, hb⟩
    have O2 : Hid (OL v2 w.heap.size (.slice a' (supL z n P r).length c') (supL z n P r)) := ho.mono A1.out.size
    have B2 : Hid (Below w.heap.size w v2) := A1.out.trans (hb.mono A1.out.size)
    clear ho hb LB A1 E1 k0 k1 k2
    go_wp2
    exact bodyPost_ret (results_tmp2 Try.results12 _ _ _) rfl ⟨⟨a', c', rfl, O2.out⟩, B2.out⟩
/-- Both answer alike. -/
theorem superBytes_both (z : Int) (n : Nat) (P : Nat → Plc) (r : ByteArray) (hn : n ≤ 1048576) : ∃ (N : Nat) (EL : Nat → Nat) (cd : Int), N ≤ 1000 ∧
    (∀ (g : Nat) (w : World), Els w 2 (some ⟨g, 0, none⟩) n (pcF P) → Calls Try.prog 12 #[.agg #[.int .i64 z, .slice (some ⟨g, 0, none⟩) n n, .string r]] w fun e w' => (∃ (b : Option Addr) (x g : Nat), e = .returned (.tuple #[.slice b N x, .int .i64 cd]) ∧ ByR w' b g N EL ∧ (0 < N → w.heap.size ≤ g ∧ g < w'.heap.size)) ∧ Below w.heap.size w w') ∧
    (∀ (g : Nat) (w : World), Els w 2 (some ⟨g, 0, none⟩) n (pcF P) → Calls Try.prog 13 #[.agg #[.int .i64 z, .slice (some ⟨g, 0, none⟩) n n, .string r]] w fun e w' => (∃ (b : Option Addr) (x g : Nat), e = .returned (.tuple #[.slice b N x, .int .i64 cd]) ∧ ByR w' b g N EL ∧ (0 < N → w.heap.size ≤ g ∧ g < w'.heap.size)) ∧ Below w.heap.size w w') := by
  by_cases hok : SupOk z n P r
  · refine ⟨(supL z n P r).length, fun i => (supL z n P r).getD i 0, 0, ?_, fun g w h => (specSupBy_any z _ n n P r hn _ 0 (.inr ⟨hok, rfl, rfl⟩) w h).mono ?_, fun g w h => (implSupBy_ok z _ n n P r hok (slpN g n hn) w h).mono ?_⟩
    · rw [supL_length, hok.1.2.2.2]
      have := hok.n16
      omega
    · rintro e w' ⟨⟨a', c', rfl, ho⟩, hb⟩
      obtain ⟨g, hr, hg⟩ := ho.byR rfl
      exact ⟨⟨a', c', g, rfl, hr, hg⟩, hb⟩
    · rintro e w' ⟨⟨a', c', rfl, ho⟩, hb⟩
      obtain ⟨g, hr, hg⟩ := ho.byR rfl
      exact ⟨⟨a', c', g, rfl, hr, hg⟩, hb⟩
  · refine ⟨0, fun _ => 0, 1, by omega, fun g w h => (specSupBy_any z _ n n P r hn [] 1 (.inl ⟨hok, rfl, rfl⟩) w h).mono ?_, fun g w h => (implSupBy_no z _ n n P r hok (slpN g n hn) hn w h).mono ?_⟩
    · rintro e w' ⟨⟨a', c', rfl, ho⟩, hb⟩
      exact ⟨⟨a', c', 0, rfl, .inl rfl, fun q => absurd q (by omega)⟩, hb⟩
    · rintro e w' ⟨rfl, hb⟩
      exact ⟨⟨none, 0, 0, rfl, .inl rfl, fun q => absurd q (by omega)⟩, hb⟩
end Go.Proofs.Ytonccbgolbcjfab
