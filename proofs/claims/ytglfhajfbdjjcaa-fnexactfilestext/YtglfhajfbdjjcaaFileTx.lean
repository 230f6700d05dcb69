/-
  FilesText of the program and of the model.
-/
import Derived.Test.YtglfhajfbdjjcaaBld
import Derived.Test.YtglfhajfbdjjcaaFileFt
import Derived.Test.YtglfhajfbdjjcaaFileOkS
import Derived.Test.YtglfhajfbdjjcaaFileBy
namespace Go.Proofs.Ytglfhajfbdjjcaa
open Go.ChangeShapes Go.WideShapes Go.ChangeAt Go.RowKit
set_option linter.unusedVariables false
/-- What a file's line has behind its path. -/
def lnT (x : Fi) : ByteArray := if x.d then ⟨#[47, 10]⟩ else (⟨#[32]⟩ ++ x.t) ++ ⟨#[10]⟩
/-- The text of the first k files. -/
def filT (F : Nat → Fi) : Nat → ByteArray
  | 0 => ⟨#[]⟩
  | k + 1 => filT F k ++ (F k).p ++ lnT (F k)
theorem filT_succ (F : Nat → Fi) (k : Nat) : filT F (k + 1) = filT F k ++ (F k).p ++ lnT (F k) := rfl
theorem one_size (x : UInt8) : (⟨#[x]⟩ : ByteArray).size = 1 := rfl
theorem two_size (x y : UInt8) : (⟨#[x, y]⟩ : ByteArray).size = 2 := rfl
theorem lnT_le {x : Fi} (h : x.Ok) : (lnT x).size ≤ 202 := by
  unfold lnT
  have := h.2.1
  split
  · rw [two_size]; omega
  · rw [ByteArray.size_append, ByteArray.size_append, one_size, one_size]; omega
theorem filT_le {F : Nat → Fi} : ∀ {n : Nat}, (∀ i, i < n → (F i).Ok) → (filT F n).size ≤ 242 * n
  | 0, _ => Nat.le_refl _
  | n + 1, h => by
    have h1 := filT_le (n := n) (fun i hi => h i (by omega))
    have h2 := lnT_le (h n (by omega))
    have h3 := (h n (by omega)).1.1
    rw [filT_succ, ByteArray.size_append, ByteArray.size_append]
    omega
theorem strCells_app (s t : ByteArray) : Lib.strCells (s ++ t) = Lib.strCells s ++ Lib.strCells t := by
  unfold Lib.strCells
  rw [show (s ++ t).data = s.data ++ t.data from ByteArray.data_append]
  simp
/-- What FilesText answers. -/
def TxIs (n : Nat) (F : Nat → Fi) (t : ByteArray) (c : Int) : Prop := (4096 < n ∧ c = 2 ∧ t = ⟨#[]⟩) ∨ (¬ 4096 < n ∧ ((¬ FsOk n F ∧ c = 1 ∧ t = ⟨#[]⟩) ∨ (FsOk n F ∧ c = 0 ∧ t = filT F n)))
theorem TxIs.uniq {n : Nat} {F : Nat → Fi} {t t' : ByteArray} {c c' : Int} (h : TxIs n F t c) (h' : TxIs n F t' c') : t = t' ∧ c = c' := by
  rcases h with ⟨a, rfl, rfl⟩ | ⟨a, ⟨b, rfl, rfl⟩ | ⟨b, rfl, rfl⟩⟩ <;> rcases h' with ⟨a', rfl, rfl⟩ | ⟨a', ⟨b', rfl, rfl⟩ | ⟨b', rfl, rfl⟩⟩ <;> first | exact ⟨rfl, rfl⟩ | exact absurd a a' | exact absurd a' a | exact absurd b b' | exact absurd b' b
theorem TxIs.ofBy {n : Nat} {F : Nat → Fi} {c : Int} (h0 : c ≠ 0) (h : ByIs n F [] c) : TxIs n F ⟨#[]⟩ c := by
  rcases h with ⟨a, rfl, _⟩ | ⟨a, ⟨b, rfl, _⟩ | ⟨b, rfl, _⟩⟩
  · exact .inl ⟨a, rfl, rfl⟩
  · exact .inr ⟨a, .inl ⟨b, rfl, rfl⟩⟩
  · exact absurd rfl h0
theorem Box3.kept {w w' : World} {b k : Nat} {x y z : Value} (h : Box3 w b 33 x y z) (hk : Lib.OthersKept 5 (some k) w w') (hne : b ≠ k) : Box3 w' b 33 x y z := h.ofBlock (by
  obtain ⟨cur, hh, _⟩ := h
  rw [hh]
  exact hk b _ hh (fun e => hne (Option.some.inj e)) (fun c fz e => by cases e))
set_option maxRecDepth 100000 in
set_option maxHeartbeats 4000000 in
theorem implTx_any (a : Option Addr) (n c : Nat) (F : Nat → Fi) (hsz : ∀ i, i < n → (F i).p.size ≤ 1048576) (hnn : n ≤ 1048576) (hsl : SlP a n c) (w : World) (h : Els w 3 a n (fiF F)) :
    Calls Try.prog 12 #[.slice a n c] w fun e w' => (∃ t cd, TxIs n F t cd ∧ e = .returned (.tuple #[.string t, .int .i64 cd])) ∧ Below w.heap.size w w' := by
  have FF : Hid (Calls Try.prog 42 #[.slice a n c, .slice none 0 0] w fun e w' => (∃ x : Int, e = .returned (.int .i64 x) ∧ FtIs n F 0 (fun _ => ⟨#[]⟩) x) ∧ Below w.heap.size w w') := filesFault_any a n c F none 0 0 (fun _ => ⟨#[]⟩) hsz hnn hsl (by omega) w h (fun i hi => absurd hi (by omega))
  have H : Hid (Els w 3 a n (fiF F)) := h
  clear h hsz
  go_enter Try.func12, Try.ntmps12
  go_wp2_with fail
  refine (Calls.mono FF.out) ?_
  rintro e v0 ⟨⟨x, rfl, hx⟩, hb⟩
  have B0 : Hid (Below w.heap.size w v0) := hb
  clear hb FF
  rcases hx.none with ⟨h0, hB⟩ | ⟨rfl, hok, hn4⟩
  · have g : (x != 0) = true := by simpa using h0
    have HM : Hid (TxIs n F ⟨#[]⟩ x) := TxIs.ofBy h0 hB
    clear h0 hB hx
    go_wp2
    go_ret2
    exact ⟨⟨_, _, HM.out, rfl⟩, B0.out⟩
  · have HO : Hid (FsOk n F) := hok
    have hn := hok.1
    have HM : Hid (TxIs n F (filT F n) 0) := .inr ⟨hn4, .inr ⟨hok, rfl, rfl⟩⟩
    have V0 : Hid (Els v0 3 a n (fiF F)) := H.out.below B0.out
    obtain ⟨v1, hv1⟩ : ∃ v, v = v0.alloc (.cells #[.pointer none, .slice none 0 0] 65) := ⟨_, rfl⟩
    have RB : Hid (Bld v0.heap.size v0.heap.size (Lib.strCells (filT F 0)) v1) := by
      refine .inl ⟨Nat.le_refl _, .slice none 0 0, ?_, ⟨rfl, .inl ⟨rfl, rfl⟩⟩, by simp [Value.ownBlock]⟩
      rw [hv1]; exact World.alloc_heap_new v0 _
    have BB : Hid (Below v0.heap.size v0 v1) := by show Below _ _ _; rw [hv1]; exact (Below.refl _ _).alloc (Nat.le_refl _) _
    have HV : Hid (v0.alloc (.cells #[.pointer none, .slice none 0 0] 65) = v1) := hv1.symm
    have WS : Hid (∀ (s T : ByteArray) (wr : World), T.size + s.size ≤ 1048576 → Bld v0.heap.size v0.heap.size (Lib.strCells T) wr → Below v0.heap.size v0 wr → Calls Try.prog 43 #[.pointer (some ⟨v0.heap.size, 0, none⟩), .string s] wr fun e w' => e = .returned (.tuple #[.int .i64 s.size, .nilIface]) ∧ (Bld v0.heap.size v0.heap.size (Lib.strCells (T ++ s)) w' ∧ Below v0.heap.size v0 w' ∧ Lib.OthersKept 5 (some v0.heap.size) wr w')) := fun s T wr hz hB hb => (writeString_any v0.heap.size v0.heap.size (Lib.strCells T) s wr hB (by rw [Lib.strCells_length]; omega) hb.size).mono fun e w' q => ⟨q.1, by rw [strCells_app]; exact q.2.1, hb.trans q.2.2.1, q.2.2.2⟩
    have VE : Hid (∀ wr : World, Below v0.heap.size v0 wr → Els wr 3 a n (fiF F)) := fun wr hb => V0.out.below hb
    have BS : Hid (w.heap.size ≤ v0.heap.size) := B0.out.size
    have BQ : Hid (∀ wr : World, Below v0.heap.size v0 wr → v0.heap.size ≤ wr.heap.size) := fun wr hb => hb.size
    clear hx hok hn4 H hv1 V0
    go_upto_region 5 with fail
    rw [HV.out]
    generalize v0.heap.size = B at *
    go_wp2
    clear HV
    go_loopw [15] (fun i wr => ∃ k : Nat, k ≤ n ∧ i = .int .i64 k ∧ Bld B B (Lib.strCells (filT F k)) wr ∧ Below B v0 wr) (fun i _ => n - (intOf i).toNat)
    case atStart => exact ⟨0, by omega, rfl, RB.out, BB.out⟩
    case round =>
      clear RB BB
      obtain ⟨k, hk, rfl, hbl, hb⟩ := hrel
      have HL : Hid (Bld B B (Lib.strCells (filT F k)) wr) := hbl
      have HB : Hid (Below B v0 wr) := hb
      clear hbl hb
      by_cases hlt : k < n
      · have hlt' : (k : Int) < (n : Int) := by omega
        obtain ⟨b, off, rfl, hc⟩ := (VE.out _ HB.out).opened (by omega)
        obtain ⟨c0, c1, c2⟩ := Els.fiC hc k hlt
        have hz : (filT F k).size ≤ 2904 := by have := filT_le (n := k) (F := F) (fun i hi => (HO.out.2 i (by omega)).1); omega
        have yz1 : (F k).p.size ≤ 40 := (HO.out.2 k hlt).1.1.1
        have yz2 : (F k).t.size ≤ 200 := (HO.out.2 k hlt).1.2.1
        have HS : Hid (filT F (k + 1) = filT F k ++ (F k).p ++ lnT (F k)) := rfl
        generalize filT F k = T at *
        generalize F k = y at *
        obtain ⟨yp, yd, yt⟩ := y
        dsimp only at *
        clear hc
        obtain ⟨v, hv⟩ : ∃ v, v = wr.alloc (.cells #[.string yp, .bool yd, .string yt] 33) := ⟨_, rfl⟩
        have XB : Hid (Box3 v wr.heap.size 33 (.string yp) (.bool yd) (.string yt)) := by show Box3 _ _ _ _ _ _; rw [hv]; exact Box3.made _ _ _ _ _
        have LV : Hid (Bld B B (Lib.strCells T) v) := by show Bld _ _ _ _; rw [hv]; exact Lib.IsBuilderF.alloc HL.out _
        have BV : Hid (Below B v0 v) := by show Below _ _ _; rw [hv]; exact HB.out.alloc (BQ.out _ HB.out) _
        have HV : Hid (wr.alloc (.cells #[.string yp, .bool yd, .string yt] 33) = v) := hv.symm
        have NE : Hid (wr.heap.size ≠ B) := fun e => by
          have := HL.out
          rcases this with ⟨_, u, hu, _⟩ | ⟨_, u, hu, _⟩ <;> (have h2 := (Array.getElem?_eq_some_iff.1 hu).1; omega)
        have t0 := XB.out.c0
        rw [hv] at t0
        clear hv HL HB
        go_wp2_with fail
        rw [HV.out]
        refine (WS.out _ _ _ (by omega) LV.out BV.out).mono ?_
        rintro e w1 ⟨rfl, l1, b1, k1⟩
        have X1 : Hid (Box3 w1 wr.heap.size 33 (.string yp) (.bool yd) (.string yt)) := XB.out.kept k1 NE.out
        have L1 : Hid (Bld B B (Lib.strCells (T ++ yp)) w1) := l1
        have B1 : Hid (Below B v0 w1) := b1
        have t1 := X1.out.c1
        have t2 := X1.out.c2
        clear l1 b1 k1 XB LV BV HV t0 c0 c1 c2
        have z1 : (T ++ yp).size ≤ 2944 := by rw [ByteArray.size_append]; omega
        have q1 : (⟨#[47]⟩ : ByteArray).size = 1 := rfl
        have q2 : (⟨#[10]⟩ : ByteArray).size = 1 := rfl
        have q3 : ((⟨#[32]⟩ : ByteArray) ++ yt).size ≤ 201 := by rw [ByteArray.size_append, one_size]; omega
        have q4 : 1 + yt.size ≤ 9223372036854775807 := by omega
        have HZ : Hid ((T ++ yp).size ≤ 2944 ∧ ((⟨#[32]⟩ : ByteArray) ++ yt).size ≤ 201) := ⟨z1, q3⟩
        clear z1 q3
        cases yd with
        | true =>
          have HS2 : Hid (filT F (k + 1) = T ++ yp ++ ⟨#[47]⟩ ++ ⟨#[10]⟩) := by
            show _ = _
            rw [HS.out]
            show T ++ yp ++ ⟨#[47, 10]⟩ = _
            rw [ByteArray.append_assoc (a := T ++ yp)]
            rfl
          clear HS
          go_wp2_with fail
          refine (WS.out _ _ _ (by have := HZ.out.1; omega) L1.out B1.out).mono ?_
          rintro e w2 ⟨rfl, l2, b2, k2⟩
          have L2 : Hid (Bld B B (Lib.strCells (T ++ yp ++ ⟨#[47]⟩)) w2) := l2
          have B2 : Hid (Below B v0 w2) := b2
          clear l2 b2 k2 L1 B1 X1 t1 t2
          go_wp2_with fail
          refine (WS.out _ _ _ (by have := HZ.out.1; rw [ByteArray.size_append, q1, q2]; omega) L2.out B2.out).mono ?_
          rintro e w3 ⟨rfl, l3, b3, k3⟩
          rw [← HS2.out] at l3
          have L3 : Hid (Bld B B (Lib.strCells (filT F (k + 1))) w3) := l3
          have B3 : Hid (Below B v0 w3) := b3
          clear l3 b3 k3 L2 B2 HS2
          go_wp2
          go_roundw
          case rel => exact ⟨k + 1, by omega, by go_num, L3.out, B3.out⟩
          case measure => simp [intOf]; omega
        | false =>
          have HS2 : Hid (filT F (k + 1) = T ++ yp ++ (⟨#[32]⟩ ++ yt) ++ ⟨#[10]⟩) := by
            show _ = _
            rw [HS.out]
            show T ++ yp ++ ((⟨#[32]⟩ ++ yt) ++ ⟨#[10]⟩) = _
            rw [ByteArray.append_assoc (a := T ++ yp)]
          clear HS
          go_wp2_with fail
          refine (WS.out _ _ _ (by have := HZ.out.1; have := HZ.out.2; omega) L1.out B1.out).mono ?_
          rintro e w2 ⟨rfl, l2, b2, k2⟩
          have L2 : Hid (Bld B B (Lib.strCells (T ++ yp ++ (⟨#[32]⟩ ++ yt))) w2) := l2
          have B2 : Hid (Below B v0 w2) := b2
          clear l2 b2 k2 L1 B1 X1 t1 t2
          go_wp2_with fail
          refine (WS.out _ _ _ (by have := HZ.out.1; have := HZ.out.2; rw [ByteArray.size_append (a := T ++ yp), q2]; omega) L2.out B2.out).mono ?_
          rintro e w3 ⟨rfl, l3, b3, k3⟩
          rw [← HS2.out] at l3
          have L3 : Hid (Bld B B (Lib.strCells (filT F (k + 1))) w3) := l3
          have B3 : Hid (Below B v0 w3) := b3
          clear l3 b3 k3 L2 B2 HS2
          go_wp2
          go_roundw
          case rel => exact ⟨k + 1, by omega, by go_num, L3.out, B3.out⟩
          case measure => simp [intOf]; omega
      · obtain rfl : k = n := by omega
        have hlt' : ¬ (k : Int) < (k : Int) := by omega
        have SR : Hid (Calls Try.prog 44 #[.pointer (some ⟨B, 0, none⟩)] wr fun e w' => e = .returned (.string (filT F k)) ∧ Below B wr w') := (builtString B B (filT F k).data.toList wr HL.out (BQ.out _ HB.out)).mono fun e w' q => ⟨by rw [q.1], q.2.2.1⟩
        generalize filT F k = T at *
        clear HL
        go_wp2_with fail
        refine (Calls.mono SR.out) ?_
        rintro e w2 ⟨rfl, hb2⟩
        have B2 : Hid (Below w.heap.size w w2) := B0.out.trans ((HB.out.trans hb2).mono BS.out)
        clear hb2 SR
        go_wp2
        go_ret2
        exact ⟨⟨_, _, HM.out, rfl⟩, B2.out⟩
set_option maxRecDepth 100000 in
set_option maxHeartbeats 2000000 in
theorem l14Text_any (a : Option Addr) (n c : Nat) (F : Nat → Fi) (hok : FsOk n F) (v0 : World) (h : Els v0 3 a n (fiF F)) :
    Calls Try.prog 40 #[.slice a n c] v0 fun e w' => e = .returned (.string (filT F n)) ∧ w' = v0 := by
  have HO : Hid (FsOk n F) := hok
  have hn := hok.1
  have H : Hid (Els v0 3 a n (fiF F)) := h
  clear h hok
  go_enter Try.func40, Try.ntmps40
  go_wp2
  go_loopw [3, 4] (fun s i wr => ∃ (k : Nat) (T : ByteArray), k ≤ n ∧ i = .int .i64 k ∧ s = .string T ∧ T = filT F k ∧ wr = v0) (fun _ i _ => n - (intOf i).toNat)
  case atStart => exact ⟨0, _, by omega, rfl, rfl, rfl, rfl⟩
  case round =>
    obtain ⟨k, T, hk, rfl, rfl, hT, rfl⟩ := hrel
    have HT : Hid (T = filT F k) := hT
    have hz : T.size ≤ 2904 := by have := filT_le (n := k) (F := F) (fun i hi => (HO.out.2 i (by omega)).1); rw [hT]; omega
    clear hT
    by_cases hlt : k < n
    · have hlt' : (k : Int) < (n : Int) := by omega
      obtain ⟨b, off, rfl, hc⟩ := H.out.opened (by omega)
      obtain ⟨c0, c1, c2⟩ := Els.fiC hc k hlt
      have yz1 : (F k).p.size ≤ 40 := (HO.out.2 k hlt).1.1.1
      have yz2 : (F k).t.size ≤ 200 := (HO.out.2 k hlt).1.2.1
      have HS : Hid (filT F (k + 1) = T ++ (F k).p ++ lnT (F k)) := by show _ = _; rw [filT_succ, HT.out]
      generalize F k = y at *
      obtain ⟨yp, yd, yt⟩ := y
      dsimp only at *
      clear hc HT
      have s1 : T.size + yp.size ≤ 9223372036854775807 := by omega
      have s2 : (T ++ yp).size ≤ 2944 := by rw [ByteArray.size_append]; omega
      cases yd with
      | true =>
        have HS2 : Hid (T ++ yp ++ ⟨#[47, 10]⟩ = filT F (k + 1)) := HS.out.symm
        have s3 : (T ++ yp).size + 2 ≤ 9223372036854775807 := by omega
        clear HS
        generalize hU : T ++ yp = U at *
        go_wp2
        go_roundw
        case rel => exact ⟨k + 1, _, by omega, by go_num, rfl, HS2.out, trivial⟩
        case measure => simp [intOf]; omega
      | false =>
        have HS2 : Hid (T ++ yp ++ ((⟨#[32]⟩ ++ yt) ++ ⟨#[10]⟩) = filT F (k + 1)) := HS.out.symm
        have s4 : 1 + yt.size ≤ 9223372036854775807 := by omega
        have s5 : ((⟨#[32]⟩ : ByteArray) ++ yt).size ≤ 201 := by rw [ByteArray.size_append, one_size]; omega
        have s6 : ((⟨#[32]⟩ : ByteArray) ++ yt).size + 1 ≤ 9223372036854775807 := by omega
        have s7 : (((⟨#[32]⟩ : ByteArray) ++ yt) ++ ⟨#[10]⟩).size ≤ 202 := by rw [ByteArray.size_append, one_size]; omega
        have s8 : (T ++ yp).size + (((⟨#[32]⟩ : ByteArray) ++ yt) ++ ⟨#[10]⟩).size ≤ 9223372036854775807 := by omega
        clear HS
        generalize hU : T ++ yp = U at *
        go_wp2
        go_roundw
        case rel => exact ⟨k + 1, _, by omega, by go_num, rfl, HS2.out, trivial⟩
        case measure => simp [intOf]; omega
    · obtain rfl : k = n := by omega
      have hlt' : ¬ (k : Int) < (k : Int) := by omega
      go_wp2
      go_ret
      exact ⟨by rw [HT.out]; rfl, rfl⟩
set_option maxRecDepth 100000 in
set_option maxHeartbeats 1000000 in
theorem specTx_any (a : Option Addr) (n c : Nat) (F : Nat → Fi) (hsz : ∀ i, i < n → (F i).p.size ≤ 1048576) (hnn : n ≤ 1048576) (w : World) (h : Els w 3 a n (fiF F)) :
    Calls Try.prog 10 #[.slice a n c] w fun e w' => (∃ t cd, TxIs n F t cd ∧ e = .returned (.tuple #[.string t, .int .i64 cd])) ∧ Below w.heap.size w w' := by
  by_cases h0 : 4096 < n
  · have g0 : (4096 : Int) < (n : Int) := by omega
    have HX : Hid (TxIs n F ⟨#[]⟩ 2) := .inl ⟨h0, rfl, rfl⟩
    clear h hsz h0
    go_enter Try.func10, Try.ntmps10
    go_wp2
    go_ret2
    exact ⟨⟨_, _, HX.out, rfl⟩, Below.refl _ _⟩
  · have g0 : ¬ (4096 : Int) < (n : Int) := by omega
    have FO : Hid (Calls Try.prog 39 #[.slice a n c] w fun e w' => Says e (FsOk n F) ∧ Below w.heap.size w w') := specFilesOK_any a n c F hsz hnn w h
    have H : Hid (Els w 3 a n (fiF F)) := h
    clear h hsz
    go_enter Try.func10, Try.ntmps10
    go_wp2_with fail
    refine (Calls.mono FO.out) ?_
    rintro e v1 ⟨⟨y, rfl, hy⟩, hb⟩
    have B1 : Hid (Below w.heap.size w v1) := hb
    have HY : Hid (y = true ↔ FsOk n F) := hy
    clear hb hy FO
    cases y with
    | false =>
      have HX : Hid (TxIs n F ⟨#[]⟩ 1) := .inr ⟨h0, .inl ⟨(fun q => by have := HY.out.2 q; cases this), rfl, rfl⟩⟩
      clear HY
      go_wp2
      go_ret2
      exact ⟨⟨_, _, HX.out, rfl⟩, B1.out⟩
    | true =>
      have HF : Hid (FsOk n F) := HY.out.1 rfl
      have HX : Hid (TxIs n F (filT F n) 0) := .inr ⟨h0, .inr ⟨HF.out, rfl, rfl⟩⟩
      have BY : Hid (Calls Try.prog 40 #[.slice a n c] v1 fun e w' => e = .returned (.string (filT F n)) ∧ w' = v1) := l14Text_any a n c F HF.out v1 (H.out.below B1.out)
      clear HY
      generalize filT F n = LL at *
      go_wp2_with fail
      refine (Calls.mono BY.out) ?_
      rintro e v2 ⟨rfl, rfl⟩
      go_wp2
      go_ret2
      exact ⟨⟨_, _, HX.out, rfl⟩, B1.out⟩
end Go.Proofs.Ytglfhajfbdjjcaa
