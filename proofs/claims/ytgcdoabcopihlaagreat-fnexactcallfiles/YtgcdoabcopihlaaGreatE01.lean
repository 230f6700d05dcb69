/-
  The model: l11Code, l11New, l11Put, l11Mkdir, MakeDir.
-/
import Derived.Test.YtgcdoabcopihlaaGreatFileOkS
import Derived.Test.YtgcdoabcopihlaaGreatFileMk
import Derived.Test.YtgcdoabcopihlaaGreatFileP
import Derived.Test.YtgcdoabcopihlaaGreatFileRm
namespace Go.Proofs.YtgcdoabcopihlaaGreat
open Go.ChangeShapes Go.WideShapes Go.ChangeAt Go.RowKit
set_option linter.unusedVariables false
set_option maxRecDepth 100000 in
set_option maxHeartbeats 1000000 in
theorem l11Code_any (a : Option Addr) (n c : Nat) (F : Nat → Fi) (p : ByteArray) (hsz : ∀ i, i < n → (F i).p.size ≤ 1048576) (hnn : n ≤ 1048576) (hp : p.size ≤ 1048576) (w : World) (h : Els w 3 a n (fiF F)) :
    Calls Tryz.prog 97 #[.slice a n c, .string p] w fun e w' => (∃ x : Int, e = .returned (.int .i64 x) ∧ FtIs n F 1 (fun _ => p) x) ∧ Below w.heap.size w w' := by
  have HL : Hid (LongT 1 (fun _ => p) ↔ 65536 < p.size) := by
    show _ ↔ _
    exact ⟨fun ⟨i, _, q⟩ => q, fun q => ⟨0, by omega, q⟩⟩
  by_cases h0 : 4096 < n
  · have g0 : (4096 : Int) < (n : Int) := by omega
    have HX : Hid (FtIs n F 1 (fun _ => p) 2) := .inl ⟨.inl h0, rfl⟩
    clear h hsz HL
    go_enter Tryz.func97, Tryz.ntmps97
    go_wp2
    go_ret
    exact ⟨⟨_, rfl, HX.out⟩, Below.refl _ _⟩
  · have g0 : ¬ (4096 : Int) < (n : Int) := by omega
    by_cases h1 : 65536 < p.size
    · have g1 : (65536 : Int) < (p.size : Int) := by omega
      have HX : Hid (FtIs n F 1 (fun _ => p) 2) := .inl ⟨.inr (HL.out.2 h1), rfl⟩
      clear h hsz HL
      go_enter Tryz.func97, Tryz.ntmps97
      go_wp2
      go_ret
      exact ⟨⟨_, rfl, HX.out⟩, Below.refl _ _⟩
    · have g1 : ¬ (65536 : Int) < (p.size : Int) := by omega
      have HN : Hid (¬ (4096 < n ∨ LongT 1 (fun _ => p))) := fun q => q.elim h0 (fun q => h1 (HL.out.1 q))
      have FO : Hid (Calls Tryz.prog 28 #[.slice a n c] w fun e w' => Says e (FsOk n F) ∧ Below w.heap.size w w') := specFilesOK_any a n c F hsz hnn w h
      have PO : Hid (∀ w : World, Calls Tryz.prog 60 #[.string p] w fun e w' => Says e (PathOk p) ∧ Below w.heap.size w w') := l11Path_any p (by unfold maxLen; omega)
      clear h hsz HL h0 h1
      go_enter Tryz.func97, Tryz.ntmps97
      go_wp2_with fail
      refine (Calls.mono FO.out) ?_
      rintro e v1 ⟨⟨y, rfl, hy⟩, hb⟩
      have B1 : Hid (Below w.heap.size w v1) := hb
      have HY : Hid (y = true ↔ FsOk n F) := hy
      clear hb hy FO
      cases y with
      | false =>
        have HX : Hid (FtIs n F 1 (fun _ => p) 1) := .inr ⟨HN.out, .inl ⟨(fun q => by have := HY.out.2 q; cases this), rfl⟩⟩
        clear HY
        go_wp2
        go_ret
        exact ⟨⟨_, rfl, HX.out⟩, B1.out⟩
      | true =>
        have HO : Hid (FsOk n F) := HY.out.1 rfl
        clear HY
        go_wp2_with fail
        refine (PO.out _).mono ?_
        rintro e v2 ⟨⟨y, rfl, hy⟩, hb⟩
        have B2 : Hid (Below w.heap.size w v2) := B1.out.trans (hb.mono B1.out.size)
        have HY : Hid (y = true ↔ PathOk p) := hy
        clear hb hy PO B1
        cases y with
        | false =>
          have HX : Hid (FtIs n F 1 (fun _ => p) 16) := .inr ⟨HN.out, .inr ⟨HO.out, .inl ⟨⟨0, by omega, fun q => by have := HY.out.2 q; cases this⟩, rfl⟩⟩⟩
          clear HY
          go_wp2
          go_ret
          exact ⟨⟨_, rfl, HX.out⟩, B2.out⟩
        | true =>
          have HX : Hid (FtIs n F 1 (fun _ => p) 0) := .inr ⟨HN.out, .inr ⟨HO.out, .inr ⟨fun _ _ => HY.out.1 rfl, rfl⟩⟩⟩
          clear HY
          go_wp2
          go_ret
          exact ⟨⟨_, rfl, HX.out⟩, B2.out⟩
set_option maxRecDepth 100000 in
theorem l11New_any (a : Option Addr) (n c : Nat) (F : Nat → Fi) (q : ByteArray) (hq : q.size ≤ 40) (hn : n ≤ 12) (w : World) (h : Els w 3 a n (fiF F)) :
    Calls Tryz.prog 74 #[.slice a n c, .string q] w fun e w' => (∃ x : Int, e = .returned (.int .i64 x) ∧ NewIs n F q x) ∧ w' = w := by
  have PA : Hid (∀ w : World, Calls Tryz.prog 62 #[.string q] w fun e w' => e = .returned (.string (par q)) ∧ w' = w) := l11Parent_any q (by omega)
  have DF : Hid (Calls Tryz.prog 61 #[.slice a n c, .string (par q)] w fun e w' => (∃ x : Int, e = .returned (.int .i64 x) ∧ DirIs n F (par q) x) ∧ w' = w) := l11Home_any a n c F (par q) (by omega) w h
  have HN : Hid (∀ c, NewIs n F q c ↔ (DirIs n F (par q) c ∧ c ≠ 0) ∨ (DirIs n F (par q) 0 ∧ ((12 ≤ n ∧ c = 7) ∨ (n < 12 ∧ c = 0)))) := fun c => Iff.rfl
  generalize par q = pq at *
  clear h hq
  go_enter Tryz.func74, Tryz.ntmps74
  go_wp2_with fail
  refine (PA.out _).mono ?_
  rintro e w1 ⟨rfl, rfl⟩
  go_wp2_with fail
  refine (Calls.mono DF.out) ?_
  rintro e w2 ⟨⟨x, rfl, hx⟩, rfl⟩
  have HX : Hid (DirIs n F pq x) := hx
  clear hx DF PA
  by_cases h0 : x = 0
  · subst h0
    by_cases h12 : 12 ≤ n
    · obtain rfl : n = 12 := by omega
      have HR : Hid (NewIs 12 F q 7) := (HN.out 7).2 (.inr ⟨HX.out, .inl ⟨h12, rfl⟩⟩)
      clear h12 HX HN
      go_wp2
      go_ret
      exact ⟨⟨_, rfl, HR.out⟩, rfl⟩
    · have g : ((n : Int) == 12) = false := by simp; omega
      have HR : Hid (NewIs n F q 0) := (HN.out 0).2 (.inr ⟨HX.out, .inr ⟨by omega, rfl⟩⟩)
      have g2 : ¬ n = 12 := by omega
      clear h12 HX HN
      go_wp2
      go_ret
      exact ⟨⟨_, rfl, HR.out⟩, rfl⟩
  · have g : (x != 0) = true := by simpa using h0
    have HR : Hid (NewIs n F q x) := (HN.out x).2 (.inl ⟨HX.out, h0⟩)
    clear h0 HX HN
    go_wp2
    go_ret
    exact ⟨⟨_, rfl, HR.out⟩, rfl⟩
theorem PutIs.le {n : Nat} {F : Nat → Fi} {f : Fi} {m : Nat} {G : Nat → Fi} (h : PutIs n F f m G) : m ≤ n + 1 := by
  rcases h with ⟨_, _, _, rfl, _⟩ | ⟨_, rfl, _⟩ <;> omega
theorem MkIs.bound {n : Nat} {F : Nat → Fi} {p : ByteArray} {m : Nat} {G : Nat → Fi} {c : Int} (h : MkIs n F p m G c) : m ≤ 13 := by
  rcases h with ⟨_, _, rfl⟩ | ⟨a, q⟩
  · omega
  · have := a.ok.1.1
    rcases q with ⟨_, _, rfl, _⟩ | ⟨_, ⟨_, _, rfl, _⟩ | ⟨_, _, h⟩⟩
    · omega
    · omega
    · have := h.le; omega
/-- A slice as it should be, in a block of which Q holds, or a new one. -/
def SlQ (Q : Nat → Prop) (B : Nat) (a : Option Addr) (m c : Nat) : Prop := SlP a m c ∧ ∀ x, a = some x → Q x.block ∨ B ≤ x.block
theorem EO.slq {w : World} {B : Nat} {t : TypeId} {s : Nat} {a : Option Addr} {n c : Nat} {F : Nat → Nat → Value} (h : EO w B t s (.slice a n c) n F) {B' : Nat} (hB : B' ≤ B) (Q : Nat → Prop) : SlQ Q B' a n c := ⟨h.slp, fun x e => by
  subst e
  exact .inr (Nat.le_trans hB (h.ge x.block rfl).1)⟩
/-- What l11Mkdir does. -/
def MkP (n : Nat) (F : Nat → Fi) (p : ByteArray) (m : Nat) (G : Nat → Fi) (c : Int) : Prop :=
  ((∃ j, j < n ∧ (F j).p = p) ∧ c = 9 ∧ m = n ∧ G = F) ∨ ((¬ ∃ j, j < n ∧ (F j).p = p) ∧ ((NewIs n F p c ∧ c ≠ 0 ∧ m = n ∧ G = F) ∨ (NewIs n F p 0 ∧ c = 0 ∧ PutIs n F ⟨p, true, ⟨#[]⟩⟩ m G)))
theorem MkP.le {n : Nat} {F : Nat → Fi} {p : ByteArray} {m : Nat} {G : Nat → Fi} {c : Int} (h : MkP n F p m G c) : m ≤ n + 1 := by
  rcases h with ⟨_, _, rfl, _⟩ | ⟨_, ⟨_, _, rfl, _⟩ | ⟨_, _, h⟩⟩
  · omega
  · omega
  · exact h.le
set_option maxRecDepth 100000 in
set_option maxHeartbeats 1000000 in
theorem l11Mkdir_any (a : Option Addr) (n c : Nat) (F : Nat → Fi) (p : ByteArray) (hs : Srt n F) (hp : p.size ≤ 40) (hn : n ≤ 12) (hsl : SlP a n c) (Q : Nat → Prop) (hQ : ∀ x, a = some x → Q x.block) (w : World) (h : Els w 3 a n (fiF F)) :
    Calls Tryz.prog 41 #[.slice a n c, .string p] w fun e w' => (∃ (a' : Option Addr) (m c' : Nat) (G : Nat → Fi) (cd : Int), e = .returned (.tuple #[.slice a' m c', .int .i64 cd]) ∧ Els w' 3 a' m (fiF G) ∧ SlQ Q w.heap.size a' m c' ∧ MkP n F p m G cd) ∧ Below w.heap.size w w' := by
  have FN : Hid (Calls Tryz.prog 73 #[.slice a n c, .string p] w fun e w' => (∃ r : Int, e = .returned (.int .i64 r) ∧ FstIs n F p r) ∧ w' = w) := l11Find_any a n c F p (by omega) w h
  have NW : Hid (Calls Tryz.prog 74 #[.slice a n c, .string p] w fun e w' => (∃ x : Int, e = .returned (.int .i64 x) ∧ NewIs n F p x) ∧ w' = w) := l11New_any a n c F p hp hn w h
  have PT : Hid (Calls Tryz.prog 75 #[.slice a n c, .agg #[.string p, .bool true, .string ⟨#[]⟩]] w fun e w' => RetPut n F ⟨p, true, ⟨#[]⟩⟩ w.heap.size e w' ∧ Below w.heap.size w w') := l11Put_any a n c F ⟨p, true, ⟨#[]⟩⟩ hs hp (by omega) w h
  have H : Hid (Els w 3 a n (fiF F)) := h
  have HZ : Hid (SlQ Q w.heap.size a n c) := ⟨hsl, fun x e => .inl (hQ x e)⟩
  clear h hs hsl hQ
  go_enter Tryz.func41, Tryz.ntmps41
  go_wp2_with fail
  refine (Calls.mono FN.out) ?_
  rintro e w1 ⟨⟨r, rfl, hr⟩, hw⟩
  cases hw
  clear FN
  rcases hr with ⟨rfl, hno⟩ | ⟨j, rfl, hj, ej, hfst⟩
  · have HN : Hid (¬ ∃ j, j < n ∧ (F j).p = p) := fun ⟨j, hj, e⟩ => hno j hj e
    clear hno
    go_wp2_with fail
    refine (Calls.mono NW.out) ?_
    rintro e w1 ⟨⟨x, rfl, hx⟩, hw⟩
    cases hw
    have HX : Hid (NewIs n F p x) := hx
    clear hx NW
    by_cases h0 : x = 0
    · subst h0
      go_wp2_with fail
      refine (Calls.mono PT.out) ?_
      rintro e w1 ⟨⟨a', m, c', G, rfl, he, hpt⟩, hb⟩
      have HR : Hid (Els w1 3 a' m (fiF G) ∧ SlQ Q w.heap.size a' m c' ∧ MkP n F p m G 0) := ⟨he.els, he.slq (Nat.le_refl _) _, .inr ⟨HN.out, .inr ⟨HX.out, rfl, hpt⟩⟩⟩
      have HB : Hid (Below w.heap.size w w1) := hb
      clear he hpt hb PT
      go_wp2
      go_ret2
      exact ⟨⟨_, _, _, G, _, rfl, HR.out⟩, HB.out⟩
    · have g : (x != 0) = true := by simpa using h0
      have HR : Hid (MkP n F p n F x) := .inr ⟨HN.out, .inl ⟨HX.out, h0, rfl, rfl⟩⟩
      clear h0
      go_wp2
      go_ret2
      exact ⟨⟨_, _, _, F, _, rfl, H.out, HZ.out, HR.out⟩, Below.refl _ _⟩
  · have HR : Hid (MkP n F p n F 9) := .inl ⟨⟨j, hj, ej⟩, rfl, rfl, rfl⟩
    clear hfst hj ej
    go_wp2
    go_ret2
    exact ⟨⟨_, _, _, F, _, rfl, H.out, HZ.out, HR.out⟩, Below.refl _ _⟩
/-- A copy of files of one's own: append([]File{}, out...). -/
theorem ownAll {w : World} {a : Option Addr} {m c : Nat} {G : Nat → Fi} (hm : m ≤ 100000) (h : Els w 3 a m (fiF G)) (hz : a = none → c = 0) :
    ∃ a' c' w', (∀ ty, (Builtin.append_ #[23, 23] ty #[.slice (some ⟨w.heap.size, 0, none⟩) 0 0, .slice a m c]).run Tryz.prog (w.alloc (.cells #[] 51)) = .ok (.slice a' m c') w') ∧ EO w' w.heap.size 51 3 (.slice a' m c') m (fiF G) ∧ Below w.heap.size w w' := by
  have WB : Below w.heap.size w (w.alloc (.cells #[] 51)) := (Below.refl _ _).alloc (Nat.le_refl _) _
  obtain ⟨v', w', hr, ho, hg, hloc⟩ := allFi (w.alloc (.cells #[] 51)) w.heap.size (.slice (some ⟨w.heap.size, 0, none⟩) 0 0) 0 G a m c G (by simp) (by omega) (EO.lit w w.heap.size _ 3 (Nat.le_refl _) _) (h.below WB) hz
  rw [Nat.zero_add, catE_zero] at ho
  obtain ⟨a', c', rfl⟩ := ho.form
  exact ⟨a', c', w', hr, ho, WB.grown hg (by simp) (fun g e => by cases e; exact Nat.le_refl _)⟩
end Go.Proofs.YtgcdoabcopihlaaGreat

/-
  RemoveFile of the model (written by tools/mkrms.py).
-/
namespace Go.Proofs.YtgcdoabcopihlaaGreat
open Go.ChangeShapes Go.WideShapes Go.ChangeAt Go.RowKit
set_option linter.unusedVariables false
theorem scan_last (s : ByteArray) (hl : byteAt s (s.size - 1) = 47) (o i : Nat) (hi : i < s.size) : s.extract s.size s.size ∈ scan s o i := by
  by_cases e : byteAt s i = 47
  · rw [scan_hit s o i hi e]
    by_cases e1 : i + 1 = s.size
    · rw [scan_end s (i + 1) (i + 1) (by omega), e1]; simp
    · exact List.mem_cons_of_mem _ (scan_last s hl (i + 1) (i + 1) (by omega))
  · rw [scan_on s o i hi e]
    have : i ≠ s.size - 1 := fun q => e (q ▸ hl)
    exact scan_last s hl o (i + 1) (by omega)
termination_by s.size - i
theorem PathOk.last {s : ByteArray} (h : PathOk s) : byteAt s (s.size - 1) ≠ 47 := fun e => by
  have h1 := h.2 _ (scan_last s e 0 0 (pathOk_pos h))
  have := h1.1
  rw [extract_size _ _ _ (Nat.le_refl _)] at this
  omega
theorem size_sl (p : ByteArray) : (p ++ (⟨#[47]⟩ : ByteArray)).size = p.size + 1 := by
  rw [ByteArray.size_append]; rfl
/-- What l11Under asks. -/
theorem under_iff {s p : ByteArray} (h : PathOk s) : HasPre s (p ++ ⟨#[47]⟩) ↔ (p.size + 1 < s.size ∧ s.extract 0 (p.size + 1) = p ++ ⟨#[47]⟩) := by
  unfold HasPre
  rw [size_sl]
  constructor
  · rintro ⟨h1, h2⟩
    refine ⟨?_, h2⟩
    rcases Nat.lt_or_ge (p.size + 1) s.size with g | g
    · exact g
    · exfalso
      have e : s.size = p.size + 1 := by omega
      have e2 : s = p ++ ⟨#[47]⟩ := by rw [← h2, ← e]; exact (ByteArray.extract_zero_size).symm
      refine h.last ?_
      rw [e, e2]
      show byteAt _ (p.size + 1 - 1) = 47
      have hlt : p.size < (p ++ (⟨#[47]⟩ : ByteArray)).size := by rw [size_sl]; omega
      rw [show p.size + 1 - 1 = p.size by omega]
      refine (byteAt_sl _ _ hlt).2 ?_
      rw [ByteArray.data_append, Array.toList_append]
      rw [List.getElem?_append_right (by show p.data.toList.length ≤ p.data.size; simp)]
      show ([47] : List UInt8)[p.data.size - p.data.toList.length]? = some 47
      simp
  · rintro ⟨h1, h2⟩
    exact ⟨by omega, h2⟩
set_option maxRecDepth 100000 in
theorem l11Under_any (s d : ByteArray) (hs : s.size ≤ 1048576) (hd : d.size ≤ 1048576) (w : World) : Calls Tryz.prog 76 #[.string s, .string d] w fun e w' => Says e (d.size + 1 < s.size ∧ s.extract 0 (d.size + 1) = d ++ ⟨#[47]⟩) ∧ w' = w := by
  have W : IntKind.i64.wrap ((d.size : Int) + 1) = (d.size : Int) + 1 := IntWalk.i64_in _ (by omega)
  have N : ((d.size : Int) + 1).toNat = d.size + 1 := by omega
  have M : d.size + 1 ≤ 9223372036854775807 := by omega
  have M2 : ¬ 9223372036854775807 < d.size + 1 := by omega
  by_cases h : d.size + 1 < s.size
  · have h' : (d.size : Int) + 1 < (s.size : Int) := by omega
    have h2 : (d.size : Int) + 1 ≤ (s.size : Int) := by omega
    have c0 : (0 : Int) ≤ (d.size : Int) + 1 := by omega
    by_cases he : s.extract 0 (d.size + 1) = d ++ ⟨#[47]⟩
    · have g : ((s.extract 0 (d.size + 1)).toList == (d ++ ⟨#[47]⟩ : ByteArray).toList) = true := by rw [he]; simp
      have HP : Hid (d.size + 1 < s.size ∧ s.extract 0 (d.size + 1) = d ++ ⟨#[47]⟩) := ⟨h, he⟩
      clear he h
      go_enter Tryz.func76, Tryz.ntmps76
      go_wp2
      go_ret
      exact ⟨⟨true, rfl, ⟨fun _ => HP.out, fun _ => rfl⟩⟩, rfl⟩
    · have g : ((s.extract 0 (d.size + 1)).toList == (d ++ ⟨#[47]⟩ : ByteArray).toList) = false := textNe he
      have HP : Hid (¬ (d.size + 1 < s.size ∧ s.extract 0 (d.size + 1) = d ++ ⟨#[47]⟩)) := fun q => he q.2
      clear he h
      go_enter Tryz.func76, Tryz.ntmps76
      go_wp2
      go_ret
      exact ⟨⟨false, rfl, ⟨fun q => by (cases q), fun q => absurd q HP.out⟩⟩, rfl⟩
  · have h' : ¬ (d.size : Int) + 1 < (s.size : Int) := by omega
    have HP : Hid (¬ (d.size + 1 < s.size ∧ s.extract 0 (d.size + 1) = d ++ ⟨#[47]⟩)) := fun q => h q.1
    clear h
    go_enter Tryz.func76, Tryz.ntmps76
    go_wp2
    go_ret
    exact ⟨⟨false, rfl, ⟨fun q => by (cases q), fun q => absurd q HP.out⟩⟩, rfl⟩
/-- What l11Remove does. -/
def RmP (n : Nat) (F : Nat → Fi) (p : ByteArray) (m : Nat) (G : Nat → Fi) (c : Int) : Prop :=
  ((∀ j, j < n → (F j).p ≠ p) ∧ c = 5 ∧ m = n ∧ G = F) ∨ ∃ j, j < n ∧ (F j).p = p ∧ ((Under n F p ∧ c = 15 ∧ m = n ∧ G = F) ∨ (¬ Under n F p ∧ c = 0 ∧ m = n - 1 ∧ ∀ i, i < m → G i = delU F j n i))
theorem RmP.le {n : Nat} {F : Nat → Fi} {p : ByteArray} {m : Nat} {G : Nat → Fi} {c : Int} (h : RmP n F p m G c) : m ≤ n + 1 := by
  rcases h with ⟨_, _, rfl, _⟩ | ⟨_, _, _, ⟨_, _, rfl, _⟩ | ⟨_, _, rfl, _⟩⟩ <;> omega
theorem del_cat (F : Nat → Fi) {k n : Nat} (hk : k < n) : ∀ i, i < n - 1 → catE k F (fun i => F (k + 1 + i)) i = delU F k n i := fun i hi => by
  unfold delU
  by_cases g : i < k
  · rw [if_pos g, catE_lt _ _ g]
  · obtain ⟨d, rfl⟩ : ∃ d, i = k + d := ⟨i - k, by omega⟩
    rw [if_neg g, if_pos (by omega), catE_at]
    congr 1
    omega
set_option maxRecDepth 100000 in
set_option maxHeartbeats 2000000 in
theorem l11Remove_any (a : Option Addr) (n c : Nat) (F : Nat → Fi) (p : ByteArray) (hs : Srt n F) (hp : p.size ≤ 40) (hn : n ≤ 12) (hsl : SlP a n c) (Q : Nat → Prop) (hQ : ∀ x, a = some x → Q x.block) (w : World) (h : Els w 3 a n (fiF F)) :
    Calls Tryz.prog 44 #[.slice a n c, .string p] w fun e w' => (∃ (a' : Option Addr) (m c' : Nat) (G : Nat → Fi) (cd : Int), e = .returned (.tuple #[.slice a' m c', .int .i64 cd]) ∧ Els w' 3 a' m (fiF G) ∧ SlQ Q w.heap.size a' m c' ∧ RmP n F p m G cd) ∧ Below w.heap.size w w' := by
  have FN : Hid (Calls Tryz.prog 73 #[.slice a n c, .string p] w fun e w' => (∃ r : Int, e = .returned (.int .i64 r) ∧ FstIs n F p r) ∧ w' = w) := l11Find_any a n c F p (by omega) w h
  have H : Hid (Els w 3 a n (fiF F)) := h
  have SP : Hid (SlP a n c) := hsl
  have HZ : Hid (SlQ Q w.heap.size a n c) := ⟨hsl, fun x e => .inl (hQ x e)⟩
  have HOK : Hid (∀ i, i < n → PathOk (F i).p) := hs.ok
  have UN : Hid (∀ i, i < n → ∀ w' : World, Calls Tryz.prog 76 #[.string (F i).p, .string p] w' fun e w'' => Says e (HasPre (F i).p (p ++ ⟨#[47]⟩)) ∧ w'' = w') := fun i hi w' => (l11Under_any _ p (by have := (hs.ok i hi).1; omega) (by omega) w').mono (fun e w'' ⟨⟨b, q1, q2⟩, q3⟩ => ⟨⟨b, q1, q2.trans (under_iff (hs.ok i hi)).symm⟩, q3⟩)
  clear h hs hsl
  go_enter Tryz.func44, Tryz.ntmps44
  go_wp2_with fail
  refine (Calls.mono FN.out) ?_
  rintro e w1 ⟨⟨r, rfl, hr⟩, hw⟩
  cases hw
  clear FN
  rcases hr with ⟨rfl, hno⟩ | ⟨k, rfl, hk, ek, hfst⟩
  · have HR : Hid (RmP n F p n F 5) := .inl ⟨hno, rfl, rfl, rfl⟩
    clear hno
    go_wp2
    go_ret2
    exact ⟨⟨_, _, _, F, _, rfl, H.out, HZ.out, HR.out⟩, Below.refl _ _⟩
  · have HK : Hid (k < n ∧ (F k).p = p) := ⟨hk, ek⟩
    have k0 : ¬ (k : Int) < 0 := by omega
    clear hfst ek
    go_wp2
    go_loopw [7] (fun i wr => ∃ q : Nat, q ≤ n ∧ i = .int .i64 q ∧ (∀ j, j < q → ¬ HasPre (F j).p (p ++ ⟨#[47]⟩)) ∧ w = wr) (fun i _ => n - (intOf i).toNat)
    case atStart => exact ⟨0, by omega, rfl, fun j hj => absurd hj (by omega), rfl⟩
    case round =>
      obtain ⟨q, hq, rfl, hI, rfl⟩ := hrel
      have HI : Hid (∀ j, j < q → ¬ HasPre (F j).p (p ++ ⟨#[47]⟩)) := hI
      clear hI
      by_cases hlt : q < n
      · obtain ⟨b, off, rfl, hc⟩ := H.out.opened (by omega)
        obtain ⟨c0, c1, c2⟩ := Els.fiC hc q hlt
        have hlt' : (q : Int) < (n : Int) := by omega
        clear hc
        go_wp2_with fail
        refine (UN.out q hlt _).mono ?_
        rintro e v1 ⟨⟨y, rfl, hy⟩, hw⟩
        cases hw
        have HY : Hid (y = true ↔ HasPre (F q).p (p ++ ⟨#[47]⟩)) := hy
        clear hy c0 c1 c2
        cases y with
        | true =>
          have HR : Hid (RmP n F p n F 15) := .inr ⟨k, HK.out.1, HK.out.2, .inl ⟨⟨q, hlt, HY.out.1 rfl⟩, rfl, rfl, rfl⟩⟩
          clear HY
          go_wp2
          go_ret2
          exact ⟨⟨_, _, _, F, _, rfl, H.out, HZ.out, HR.out⟩, Below.refl _ _⟩
        | false =>
          have HN : Hid (∀ j, j < q + 1 → ¬ HasPre (F j).p (p ++ ⟨#[47]⟩)) := fun j hj => by
            by_cases e : j = q
            · subst e; exact fun z => by have := HY.out.2 z; cases this
            · exact HI.out j (by omega)
          clear HY
          go_wp2
          go_roundw
          case rel => exact ⟨q + 1, by omega, by go_num, HN.out, by trivial⟩
          case measure => simp [intOf]; omega
      · obtain rfl : q = n := by omega
        have hlt' : ¬ (q : Int) < (q : Int) := by omega
        have HU : Hid (¬ Under q F p) := fun ⟨i, hi, z⟩ => HI.out i hi z
        have HR : Hid (RmP q F p (q - 1) (catE k F (fun i => F (k + 1 + i))) 0) := .inr ⟨k, HK.out.1, HK.out.2, .inr ⟨HU.out, rfl, rfl, del_cat F HK.out.1⟩⟩
        have SPL : Hid (q ≤ c) := SP.out.le
        have CT : Hid (∀ w : World, (Instr.slice 23 (.slice a q c) none (some (.int .i64 (k : Int))) none).run Tryz.prog w = .ok (.slice a k c) w) := fun w => run_cut_to 23 rfl 3 (fun w => by kernel_rfl) SP.out k (by have := SPL.out; omega) w
        have CF : Hid (∀ w : World, (Instr.slice 23 (.slice a q c) (some (.int .i64 ((k : Int) + 1))) none none).run Tryz.prog w = .ok (.slice (cutA a c (k + 1) 3) (q - (k + 1)) (c - (k + 1))) w) := fun w => by
          have := run_cut_from 23 (P := Tryz.prog) rfl 3 (fun w => by kernel_rfl) SP.out (k + 1) (by omega) w
          rw [show (((k + 1 : Nat)) : Int) = (k : Int) + 1 by omega] at this
          exact this
        have W1 : IntKind.i64.wrap ((k : Int) + 1) = (k : Int) + 1 := IntWalk.i64_in _ (by omega)
        clear HI HU UN HOK
        go_upto_region 9 with fail
        have J : Hid (InsJ w w.drew 51 3 (.slice none 0 0) 0 (fiF F) none (fiV ⟨⟨#[]⟩, false, ⟨#[]⟩⟩)) := InsJ.start _ _ _ _ _
        have H0 : Below w.heap.size w w.drew := (Below.refl _ _).drew
        refine wp_region_noPanic ?_
        refine wp_region_held_drew (S := fun w' => Below w.heap.size w w') (by kernel_rfl) H0 (fun _ => ?_)
        generalize w.drew = y0 at *
        refine wpAnyH_take (i := 1) (v := .slice a q c) rfl (by kernel_rfl) (by kernel_rfl) (by kernel_rfl) (fun _ _ _ h => h) (Or.inl ⟨by rfl, ?_⟩) H0 ?_
        · intro w' hSw; go_simp
        change wpAnyH _ _ _ _ _ _ _ { tmps := #[_, _, _, _, _, _, _, _, _, _, _, _, _, _, _, _, _, _, _, _, _, _, _, _, _, _, _, _, _, _, _, _, _, _, _, _, _, _], defers := _ } _
        refine wpAnyH_take (i := 2) (v := .int .i64 (k : Int)) rfl (by kernel_rfl) (by kernel_rfl) (by kernel_rfl) (fun _ _ _ h => h) (Or.inl ⟨by rfl, ?_⟩) H0 ?_
        · intro w' hSw; go_simp
        change wpAnyH _ _ _ _ _ _ _ { tmps := #[_, _, _, _, _, _, _, _, _, _, _, _, _, _, _, _, _, _, _, _, _, _, _, _, _, _, _, _, _, _, _, _, _, _, _, _, _, _], defers := _ } _
        refine wpAnyH_take (i := 3) (v := .slice a k c) rfl (by kernel_rfl) (by kernel_rfl) (by kernel_rfl) (fun _ _ _ h => h) (Or.inl ⟨by rfl, ?_⟩) H0 ?_
        · intro w' hSw; have hs := CT.out w'; clear hSw; go_simp
        change wpAnyH _ _ _ _ _ _ _ { tmps := #[_, _, _, _, _, _, _, _, _, _, _, _, _, _, _, _, _, _, _, _, _, _, _, _, _, _, _, _, _, _, _, _, _, _, _, _, _, _], defers := _ } _
        refine wpAnyH_take (i := 5) (v := .slice a q c) rfl (by kernel_rfl) (by kernel_rfl) (by kernel_rfl) (fun _ _ _ h => h) (Or.inl ⟨by rfl, ?_⟩) H0 ?_
        · intro w' hSw; go_simp
        change wpAnyH _ _ _ _ _ _ _ { tmps := #[_, _, _, _, _, _, _, _, _, _, _, _, _, _, _, _, _, _, _, _, _, _, _, _, _, _, _, _, _, _, _, _, _, _, _, _, _, _], defers := _ } _
        refine wpAnyH_take (i := 6) (v := .int .i64 (k : Int)) rfl (by kernel_rfl) (by kernel_rfl) (by kernel_rfl) (fun _ _ _ h => h) (Or.inl ⟨by rfl, ?_⟩) H0 ?_
        · intro w' hSw; go_simp
        change wpAnyH _ _ _ _ _ _ _ { tmps := #[_, _, _, _, _, _, _, _, _, _, _, _, _, _, _, _, _, _, _, _, _, _, _, _, _, _, _, _, _, _, _, _, _, _, _, _, _, _], defers := _ } _
        refine wpAnyH_take (i := 7) (v := .int .i64 ((k : Int) + 1)) rfl (by kernel_rfl) (by kernel_rfl) (by kernel_rfl) (fun _ _ _ h => h) (Or.inl ⟨by rfl, ?_⟩) H0 ?_
        · intro w' hSw; go_simp
        change wpAnyH _ _ _ _ _ _ _ { tmps := #[_, _, _, _, _, _, _, _, _, _, _, _, _, _, _, _, _, _, _, _, _, _, _, _, _, _, _, _, _, _, _, _, _, _, _, _, _, _], defers := _ } _
        refine wpAnyH_take (i := 8) (v := .slice (cutA a c (k + 1) 3) (q - (k + 1)) (c - (k + 1))) rfl (by kernel_rfl) (by kernel_rfl) (by kernel_rfl) (fun _ _ _ h => h) (Or.inl ⟨by rfl, ?_⟩) H0 ?_
        · intro w' hSw; have hs := CF.out w'; clear hSw; go_simp
        change wpAnyH _ _ _ _ _ _ _ { tmps := #[_, _, _, _, _, _, _, _, _, _, _, _, _, _, _, _, _, _, _, _, _, _, _, _, _, _, _, _, _, _, _, _, _, _, _, _, _, _], defers := _ } _
        refine wpAnyH_ready (rs := [0]) (by kernel_rfl) (by simp) ?_
        refine AllReadyH.cons rfl (fun KK hK => ?_) AllReadyH.nil
        replace J : Hid (InsJ w (y0.alloc (.cells #[] 51)) 51 3 (.slice (some ⟨y0.heap.size, 0, none⟩) 0 0) 0 (fiF F) none (fiV ⟨⟨#[]⟩, false, ⟨#[]⟩⟩)) := J.out.lit0
        go_simp
        replace H0 := J.out.hb
        refine hK.out _ _ H0 (fun _ => ?_)
        clear hK KK
        generalize (y0.alloc (.cells #[] 51)) = y1 at *
        generalize y0.heap.size = gr at *
        change wpAnyH _ _ _ _ _ _ _ { tmps := #[_, _, _, _, _, _, _, _, _, _, _, _, _, _, _, _, _, _, _, _, _, _, _, _, _, _, _, _, _, _, _, _, _, _, _, _, _, _], defers := _ } _
        refine wpAnyH_ready (rs := [4]) (by kernel_rfl) (by simp) ?_
        refine AllReadyH.cons rfl (fun KK hK => ?_) AllReadyH.nil
        obtain ⟨vr, y2, hr, ho, hg, hl⟩ := allFi y1 w.heap.size _ 0 F a k c F J.out.hb.size (by omega) J.out.row ((H.out.less (by omega)).below J.out.hb) SP.out.z
        rw [Nat.zero_add, catE_zero] at ho
        obtain ⟨ara, cra, rfl⟩ := ho.form
        replace J : Hid (InsJ w y2 51 3 (.slice ara k cra) k (fiF F) none (fiV ⟨⟨#[]⟩, false, ⟨#[]⟩⟩)) := J.out.grow ho hg hl
        rw [if_pos (by rfl)]
        refine Lib.wp_append_run _ (.tmp 28) (.tmp 31) 23 23 rfl (.slice (some ⟨gr, 0, none⟩) 0 0) (.slice a k c) rfl rfl _ _ (hr _) ?_
        replace H0 := J.out.hb
        refine hK.out _ _ H0 (fun _ => ?_)
        clear hK KK hr ho hg hl
        change wpAnyH _ _ _ _ _ _ _ { tmps := #[_, _, _, _, _, _, _, _, _, _, _, _, _, _, _, _, _, _, _, _, _, _, _, _, _, _, _, _, _, _, _, _, _, _, _, _, _, _], defers := _ } _
        refine wpAnyH_ready (rs := [9]) (by kernel_rfl) (by simp) ?_
        refine AllReadyH.cons rfl (fun KK hK => ?_) AllReadyH.nil
        obtain ⟨vr, y3, hr, ho, hg, hl⟩ := allFi y2 w.heap.size _ k F (cutA a c (k + 1) 3) (q - (k + 1)) (c - (k + 1)) (fun i => F (k + 1 + i)) J.out.hb.size (by omega) J.out.row ((H.out.cut SPL.out (k + 1) (by omega)).below J.out.hb) (cutA_zero SP.out _ _)
        rw [show k + (q - (k + 1)) = q - 1 by omega] at ho
        obtain ⟨arb, crb, rfl⟩ := ho.form
        replace J : Hid (InsJ w y3 51 3 (.slice arb (q - 1) crb) (q - 1) (fiF (catE k F (fun i => F (k + 1 + i)))) none (fiV ⟨⟨#[]⟩, false, ⟨#[]⟩⟩)) := J.out.grow ho hg hl
        rw [if_pos (by rfl)]
        refine Lib.wp_append_run _ (.tmp 32) (.tmp 36) 23 23 rfl (.slice ara k cra) (.slice (cutA a c (k + 1) 3) (q - (k + 1)) (c - (k + 1))) rfl rfl _ _ (hr _) ?_
        replace H0 := J.out.hb
        refine hK.out _ _ H0 (fun _ => ?_)
        clear hK KK hr ho hg hl
        change wpAnyH _ _ _ _ _ _ _ { tmps := #[_, _, _, _, _, _, _, _, _, _, _, _, _, _, _, _, _, _, _, _, _, _, _, _, _, _, _, _, _, _, _, _, _, _, _, _, _, _], defers := _ } _
        refine wpAnyH_take (i := 10) (v := .slice arb (q - 1) crb) rfl (by kernel_rfl) (by kernel_rfl) (by kernel_rfl) (fun _ _ _ h => h) (Or.inl ⟨by rfl, ?_⟩) H0 ?_
        · intro w' hSw; go_simp
        change wpAnyH _ _ _ _ _ _ _ { tmps := #[_, _, _, _, _, _, _, _, _, _, _, _, _, _, _, _, _, _, _, _, _, _, _, _, _, _, _, _, _, _, _, _, _, _, _, _, _, _], defers := _ } _
        refine wpAnyH_take (i := 11) (v := .int .i64 0) rfl (by kernel_rfl) (by kernel_rfl) (by kernel_rfl) (fun _ _ _ h => h) (Or.inl ⟨by rfl, ?_⟩) H0 ?_
        · intro w' hSw; go_simp
        change wpAnyH _ _ _ _ _ _ _ { tmps := #[_, _, _, _, _, _, _, _, _, _, _, _, _, _, _, _, _, _, _, _, _, _, _, _, _, _, _, _, _, _, _, _, _, _, _, _, _, _], defers := _ } _
        refine wpAnyH_done (by kernel_rfl) ?_ _
        refine NoPanic.normal ?_
        clear CT CF H0 W1
        go_wp2
        go_ret2
        exact ⟨⟨_, _, _, _, _, rfl, J.out.row.els, J.out.row.slq (Nat.le_refl _) _, HR.out⟩, J.out.hb⟩
end Go.Proofs.YtgcdoabcopihlaaGreat
