/-
  The model: l11Code, l11New, l11Put, l11Mkdir, MakeDir.
-/
import Derived.Test.YtglfhajfbdjjcaaFileOkS
import Derived.Test.YtglfhajfbdjjcaaFileMk
import Derived.Test.YtglfhajfbdjjcaaFileP
namespace Go.Proofs.Ytglfhajfbdjjcaa
open Go.ChangeShapes Go.WideShapes Go.ChangeAt Go.RowKit
set_option linter.unusedVariables false
set_option maxRecDepth 100000 in
set_option maxHeartbeats 1000000 in
theorem l11Code_any (a : Option Addr) (n c : Nat) (F : Nat → Fi) (p : ByteArray) (hsz : ∀ i, i < n → (F i).p.size ≤ 1048576) (hnn : n ≤ 1048576) (hp : p.size ≤ 1048576) (w : World) (h : Els w 3 a n (fiF F)) :
    Calls Try.prog 49 #[.slice a n c, .string p] w fun e w' => (∃ x : Int, e = .returned (.int .i64 x) ∧ FtIs n F 1 (fun _ => p) x) ∧ Below w.heap.size w w' := by
  have HL : Hid (LongT 1 (fun _ => p) ↔ 65536 < p.size) := by
    show _ ↔ _
    exact ⟨fun ⟨i, _, q⟩ => q, fun q => ⟨0, by omega, q⟩⟩
  by_cases h0 : 4096 < n
  · have g0 : (4096 : Int) < (n : Int) := by omega
    have HX : Hid (FtIs n F 1 (fun _ => p) 2) := .inl ⟨.inl h0, rfl⟩
    clear h hsz HL
    go_enter Try.func49, Try.ntmps49
    go_wp2
    go_ret
    exact ⟨⟨_, rfl, HX.out⟩, Below.refl _ _⟩
  · have g0 : ¬ (4096 : Int) < (n : Int) := by omega
    by_cases h1 : 65536 < p.size
    · have g1 : (65536 : Int) < (p.size : Int) := by omega
      have HX : Hid (FtIs n F 1 (fun _ => p) 2) := .inl ⟨.inr (HL.out.2 h1), rfl⟩
      clear h hsz HL
      go_enter Try.func49, Try.ntmps49
      go_wp2
      go_ret
      exact ⟨⟨_, rfl, HX.out⟩, Below.refl _ _⟩
    · have g1 : ¬ (65536 : Int) < (p.size : Int) := by omega
      have HN : Hid (¬ (4096 < n ∨ LongT 1 (fun _ => p))) := fun q => q.elim h0 (fun q => h1 (HL.out.1 q))
      have FO : Hid (Calls Try.prog 39 #[.slice a n c] w fun e w' => Says e (FsOk n F) ∧ Below w.heap.size w w') := specFilesOK_any a n c F hsz hnn w h
      have PO : Hid (∀ w : World, Calls Try.prog 60 #[.string p] w fun e w' => Says e (PathOk p) ∧ Below w.heap.size w w') := l11Path_any p (by unfold maxLen; omega)
      clear h hsz HL h0 h1
      go_enter Try.func49, Try.ntmps49
      go_wp2_with fail
      refine (Calls.mono FO.out) ?_
      rintro e v1 ⟨⟨y, rfl, hy⟩, hb⟩
      have B1 : Hid (Below w.heap.size w v1) := hb
      have HY : Hid (y = true ↔ FsOk n F) := hy
      clear hb hy FO
      cases y with
      | false =>
        have HX : Hid (FtIs n F 1 (fun _ => p) 1) := .inr ⟨HN.out, .inl ⟨(fun q => by have := HY.out.2 q; cases this), rfl⟩⟩
        clear HY
        go_wp2
        go_ret
        exact ⟨⟨_, rfl, HX.out⟩, B1.out⟩
      | true =>
        have HO : Hid (FsOk n F) := HY.out.1 rfl
        clear HY
        go_wp2_with fail
        refine (PO.out _).mono ?_
        rintro e v2 ⟨⟨y, rfl, hy⟩, hb⟩
        have B2 : Hid (Below w.heap.size w v2) := B1.out.trans (hb.mono B1.out.size)
        have HY : Hid (y = true ↔ PathOk p) := hy
        clear hb hy PO B1
        cases y with
        | false =>
          have HX : Hid (FtIs n F 1 (fun _ => p) 16) := .inr ⟨HN.out, .inr ⟨HO.out, .inl ⟨⟨0, by omega, fun q => by have := HY.out.2 q; cases this⟩, rfl⟩⟩⟩
          clear HY
          go_wp2
          go_ret
          exact ⟨⟨_, rfl, HX.out⟩, B2.out⟩
        | true =>
          have HX : Hid (FtIs n F 1 (fun _ => p) 0) := .inr ⟨HN.out, .inr ⟨HO.out, .inr ⟨fun _ _ => HY.out.1 rfl, rfl⟩⟩⟩
          clear HY
          go_wp2
          go_ret
          exact ⟨⟨_, rfl, HX.out⟩, B2.out⟩
set_option maxRecDepth 100000 in
theorem l11New_any (a : Option Addr) (n c : Nat) (F : Nat → Fi) (q : ByteArray) (hq : q.size ≤ 40) (hn : n ≤ 12) (w : World) (h : Els w 3 a n (fiF F)) :
    Calls Try.prog 112 #[.slice a n c, .string q] w fun e w' => (∃ x : Int, e = .returned (.int .i64 x) ∧ NewIs n F q x) ∧ w' = w := by
  have PA : Hid (∀ w : World, Calls Try.prog 82 #[.string q] w fun e w' => e = .returned (.string (par q)) ∧ w' = w) := l11Parent_any q (by omega)
  have DF : Hid (Calls Try.prog 81 #[.slice a n c, .string (par q)] w fun e w' => (∃ x : Int, e = .returned (.int .i64 x) ∧ DirIs n F (par q) x) ∧ w' = w) := l11Home_any a n c F (par q) (by omega) w h
  have HN : Hid (∀ c, NewIs n F q c ↔ (DirIs n F (par q) c ∧ c ≠ 0) ∨ (DirIs n F (par q) 0 ∧ ((12 ≤ n ∧ c = 7) ∨ (n < 12 ∧ c = 0)))) := fun c => Iff.rfl
  generalize par q = pq at *
  clear h hq
  go_enter Try.func112, Try.ntmps112
  go_wp2_with fail
  refine (PA.out _).mono ?_
  rintro e w1 ⟨rfl, rfl⟩
  go_wp2_with fail
  refine (Calls.mono DF.out) ?_
  rintro e w2 ⟨⟨x, rfl, hx⟩, rfl⟩
  have HX : Hid (DirIs n F pq x) := hx
  clear hx DF PA
  by_cases h0 : x = 0
  · subst h0
    by_cases h12 : 12 ≤ n
    · obtain rfl : n = 12 := by omega
      have HR : Hid (NewIs 12 F q 7) := (HN.out 7).2 (.inr ⟨HX.out, .inl ⟨h12, rfl⟩⟩)
      clear h12 HX HN
      go_wp2
      go_ret
      exact ⟨⟨_, rfl, HR.out⟩, rfl⟩
    · have g : ((n : Int) == 12) = false := by simp; omega
      have HR : Hid (NewIs n F q 0) := (HN.out 0).2 (.inr ⟨HX.out, .inr ⟨by omega, rfl⟩⟩)
      have g2 : ¬ n = 12 := by omega
      clear h12 HX HN
      go_wp2
      go_ret
      exact ⟨⟨_, rfl, HR.out⟩, rfl⟩
  · have g : (x != 0) = true := by simpa using h0
    have HR : Hid (NewIs n F q x) := (HN.out x).2 (.inl ⟨HX.out, h0⟩)
    clear h0 HX HN
    go_wp2
    go_ret
    exact ⟨⟨_, rfl, HR.out⟩, rfl⟩
theorem PutIs.le {n : Nat} {F : Nat → Fi} {f : Fi} {m : Nat} {G : Nat → Fi} (h : PutIs n F f m G) : m ≤ n + 1 := by
  rcases h with ⟨_, _, _, rfl, _⟩ | ⟨_, rfl, _⟩ <;> omega
/-- What l11Mkdir does. -/
def MkP (n : Nat) (F : Nat → Fi) (p : ByteArray) (m : Nat) (G : Nat → Fi) (c : Int) : Prop :=
  ((∃ j, j < n ∧ (F j).p = p) ∧ c = 9 ∧ m = n ∧ G = F) ∨ ((¬ ∃ j, j < n ∧ (F j).p = p) ∧ ((NewIs n F p c ∧ c ≠ 0 ∧ m = n ∧ G = F) ∨ (NewIs n F p 0 ∧ c = 0 ∧ PutIs n F ⟨p, true, ⟨#[]⟩⟩ m G)))
theorem MkP.le {n : Nat} {F : Nat → Fi} {p : ByteArray} {m : Nat} {G : Nat → Fi} {c : Int} (h : MkP n F p m G c) : m ≤ n + 1 := by
  rcases h with ⟨_, _, rfl, _⟩ | ⟨_, ⟨_, _, rfl, _⟩ | ⟨_, _, h⟩⟩
  · omega
  · omega
  · exact h.le
set_option maxRecDepth 100000 in
set_option maxHeartbeats 1000000 in
theorem l11Mkdir_any (a : Option Addr) (n c : Nat) (F : Nat → Fi) (p : ByteArray) (hs : Srt n F) (hp : p.size ≤ 40) (hn : n ≤ 12) (hz : a = none → c = 0) (w : World) (h : Els w 3 a n (fiF F)) :
    Calls Try.prog 89 #[.slice a n c, .string p] w fun e w' => (∃ (a' : Option Addr) (m c' : Nat) (G : Nat → Fi) (cd : Int), e = .returned (.tuple #[.slice a' m c', .int .i64 cd]) ∧ Els w' 3 a' m (fiF G) ∧ (a' = none → c' = 0) ∧ MkP n F p m G cd) ∧ Below w.heap.size w w' := by
  have FN : Hid (Calls Try.prog 50 #[.slice a n c, .string p] w fun e w' => (∃ r : Int, e = .returned (.int .i64 r) ∧ FstIs n F p r) ∧ w' = w) := l11Find_any a n c F p (by omega) w h
  have NW : Hid (Calls Try.prog 112 #[.slice a n c, .string p] w fun e w' => (∃ x : Int, e = .returned (.int .i64 x) ∧ NewIs n F p x) ∧ w' = w) := l11New_any a n c F p hp hn w h
  have PT : Hid (Calls Try.prog 104 #[.slice a n c, .agg #[.string p, .bool true, .string ⟨#[]⟩]] w fun e w' => RetPut n F ⟨p, true, ⟨#[]⟩⟩ w.heap.size e w' ∧ Below w.heap.size w w') := l11Put_any a n c F ⟨p, true, ⟨#[]⟩⟩ hs hp (by omega) w h
  have H : Hid (Els w 3 a n (fiF F)) := h
  have HZ : Hid (a = none → c = 0) := hz
  clear h hs hz
  go_enter Try.func89, Try.ntmps89
  go_wp2_with fail
  refine (Calls.mono FN.out) ?_
  rintro e w1 ⟨⟨r, rfl, hr⟩, hw⟩
  cases hw
  clear FN
  rcases hr with ⟨rfl, hno⟩ | ⟨j, rfl, hj, ej, hfst⟩
  · have HN : Hid (¬ ∃ j, j < n ∧ (F j).p = p) := fun ⟨j, hj, e⟩ => hno j hj e
    clear hno
    go_wp2_with fail
    refine (Calls.mono NW.out) ?_
    rintro e w1 ⟨⟨x, rfl, hx⟩, hw⟩
    cases hw
    have HX : Hid (NewIs n F p x) := hx
    clear hx NW
    by_cases h0 : x = 0
    · subst h0
      go_wp2_with fail
      refine (Calls.mono PT.out) ?_
      rintro e w1 ⟨⟨a', m, c', G, rfl, he, hpt⟩, hb⟩
      have HR : Hid (Els w1 3 a' m (fiF G) ∧ (a' = none → c' = 0) ∧ MkP n F p m G 0) := ⟨he.els, he.zero, .inr ⟨HN.out, .inr ⟨HX.out, rfl, hpt⟩⟩⟩
      have HB : Hid (Below w.heap.size w w1) := hb
      clear he hpt hb PT
      go_wp2
      go_ret2
      exact ⟨⟨_, _, _, G, _, rfl, HR.out⟩, HB.out⟩
    · have g : (x != 0) = true := by simpa using h0
      have HR : Hid (MkP n F p n F x) := .inr ⟨HN.out, .inl ⟨HX.out, h0, rfl, rfl⟩⟩
      clear h0
      go_wp2
      go_ret2
      exact ⟨⟨_, _, _, F, _, rfl, H.out, HZ.out, HR.out⟩, Below.refl _ _⟩
  · have HR : Hid (MkP n F p n F 9) := .inl ⟨⟨j, hj, ej⟩, rfl, rfl, rfl⟩
    clear hfst hj ej
    go_wp2
    go_ret2
    exact ⟨⟨_, _, _, F, _, rfl, H.out, HZ.out, HR.out⟩, Below.refl _ _⟩
/-- A copy of files of one's own: append([]File{}, out...). -/
theorem ownAll {w : World} {a : Option Addr} {m c : Nat} {G : Nat → Fi} (hm : m ≤ 100000) (h : Els w 3 a m (fiF G)) (hz : a = none → c = 0) :
    ∃ a' c' w', (∀ ty, (Builtin.append_ #[26, 26] ty #[.slice (some ⟨w.heap.size, 0, none⟩) 0 0, .slice a m c]).run Try.prog (w.alloc (.cells #[] 33)) = .ok (.slice a' m c') w') ∧ EO w' w.heap.size 33 3 (.slice a' m c') m (fiF G) ∧ Below w.heap.size w w' := by
  have WB : Below w.heap.size w (w.alloc (.cells #[] 33)) := (Below.refl _ _).alloc (Nat.le_refl _) _
  obtain ⟨v', w', hr, ho, hg, hloc⟩ := allFi (w.alloc (.cells #[] 33)) w.heap.size (.slice (some ⟨w.heap.size, 0, none⟩) 0 0) 0 G a m c G (by simp) (by omega) (EO.lit w w.heap.size _ 3 (Nat.le_refl _) _) (h.below WB) hz
  rw [Nat.zero_add, catE_zero] at ho
  obtain ⟨a', c', rfl⟩ := ho.form
  exact ⟨a', c', w', hr, ho, WB.grown hg (by simp) (fun g e => by cases e; exact Nat.le_refl _)⟩
end Go.Proofs.Ytglfhajfbdjjcaa
