/-
  A drawn call on files: fileCall of the source, FileCallOf, DatumOf (written by tools/mkdrawh.py).
-/
import Derived.Test.YtbdoablokoghbaaB07
import Derived.Test.YtbdoablokoghbaaRetCell
import Derived.Test.YtbdoablokoghbaaB03
import Derived.Test.YtbdoablokoghbaaB02
import Derived.Test.YtbdoablokoghbaaTxE
import Derived.Test.YtbdoablokoghbaaB04
import Derived.Test.YtbdoablokoghbaaB08
namespace Go.Proofs.Ytbdoablokoghbaa
open Go.ChangeShapes Go.WideShapes Go.ChangeAt Go.RowKit
set_option linter.unusedVariables false
/-- What a call holds. -/
structure Fcl where
  k : Int
  a : Int
  n : Int
  p : ByteArray
  o : ByteArray
  d : ByteArray
def fclZ : Fcl := ⟨0, 0, 0, ⟨#[]⟩, ⟨#[]⟩, ⟨#[]⟩⟩
/-- The cells of a call. -/
def fclV (x : Fcl) (i : Nat) : Value := if i = 0 then .int .i64 x.k else if i = 1 then .int .i64 x.a else if i = 2 then .int .i64 x.n else if i = 3 then .string x.p else if i = 4 then .string x.o else .string x.d
def fclA (x : Fcl) : Value := .agg #[.int .i64 x.k, .int .i64 x.a, .int .i64 x.n, .string x.p, .string x.o, .string x.d]
/-- A variable that holds a call. -/
def FclB (w : World) (p : Nat) (x : Fcl) : Prop := w.rowIs p 26 6 (fclV x)
theorem FclB.c {w : World} {p : Nat} {x : Fcl} (h : FclB w p x) : w.cell? ⟨p, 0, none⟩ = some (.int .i64 x.k) ∧ w.cell? ⟨p, 1, none⟩ = some (.int .i64 x.a) ∧ w.cell? ⟨p, 2, none⟩ = some (.int .i64 x.n) ∧ w.cell? ⟨p, 3, none⟩ = some (.string x.p) ∧ w.cell? ⟨p, 4, none⟩ = some (.string x.o) ∧ w.cell? ⟨p, 5, none⟩ = some (.string x.d) := ⟨World.rowIs.cell h (i := 0) (by omega), World.rowIs.cell h (i := 1) (by omega), World.rowIs.cell h (i := 2) (by omega), World.rowIs.cell h (i := 3) (by omega), World.rowIs.cell h (i := 4) (by omega), World.rowIs.cell h (i := 5) (by omega)⟩
theorem FclB.fr {w : World} {p : Nat} {x : Fcl} (h : FclB w p x) (i : Nat) : w.frozen? ⟨p, i, none⟩ = false := World.rowIs.frozen h i
theorem FclB.ofBlock {w w' : World} {p : Nat} {x : Fcl} (h : FclB w p x) (e : w'.heap[p]? = w.heap[p]?) : FclB w' p x := World.rowIs.of_block h e
theorem FclB.lt {w : World} {p : Nat} {x : Fcl} (h : FclB w p x) : p < w.heap.size := World.rowIs.lt h
theorem FclB.onlyB {w w' : World} {p g : Nat} {x : Fcl} (h : FclB w p x) (ho : OnlyB g w w') (hne : p ≠ g) : FclB w' p x := h.ofBlock (ho.block p h.lt hne)
theorem FclB.below {w w' : World} {p : Nat} {x : Fcl} (h : FclB w p x) (hb : Below w.heap.size w w') : FclB w' p x := h.ofBlock (hb.block p h.lt)
theorem FclB.madeOf {w : World} {p : Nat} {x : Fcl} (hp : w.heap.size = p) : FclB (w.alloc (.cells #[.int .i64 x.k, .int .i64 x.a, .int .i64 x.n, .string x.p, .string x.o, .string x.d] 26)) p x := by
  subst hp
  exact World.rowIs_alloc w _ _ _ (fun i hi => by
    rcases (show i = 0 ∨ i = 1 ∨ i = 2 ∨ i = 3 ∨ i = 4 ∨ i = 5 by simp at hi; omega) with rfl | rfl | rfl | rfl | rfl | rfl <;> rfl)
/-- The world behind a store of x. -/
def fclSt (w : World) (p : Nat) (x : Fcl) : World := (((((w.setCell ⟨p, 0, none⟩ (.int .i64 x.k)).setCell ⟨p, 1, none⟩ (.int .i64 x.a)).setCell ⟨p, 2, none⟩ (.int .i64 x.n)).setCell ⟨p, 3, none⟩ (.string x.p)).setCell ⟨p, 4, none⟩ (.string x.o)).setCell ⟨p, 5, none⟩ (.string x.d)
theorem fclSt_block {w : World} {p b : Nat} {x : Fcl} (h : b ≠ p) : (fclSt w p x).heap[b]? = w.heap[b]? := by
  unfold fclSt
  rw [Below.heap_setCell _ ⟨p, 5, none⟩ _ b h, Below.heap_setCell _ ⟨p, 4, none⟩ _ b h, Below.heap_setCell _ ⟨p, 3, none⟩ _ b h, Below.heap_setCell _ ⟨p, 2, none⟩ _ b h, Below.heap_setCell _ ⟨p, 1, none⟩ _ b h, Below.heap_setCell _ ⟨p, 0, none⟩ _ b h]
theorem FclB.st {w : World} {p : Nat} {y : Fcl} (h : FclB w p y) (x : Fcl) : FclB (fclSt w p x) p x := by
  refine World.rowIs.congr (World.rowIs.set (World.rowIs.set (World.rowIs.set (World.rowIs.set (World.rowIs.set (World.rowIs.set h 0 (.int .i64 x.k)) 1 (.int .i64 x.a)) 2 (.int .i64 x.n)) 3 (.string x.p)) 4 (.string x.o)) 5 (.string x.d)) (fun i hi => ?_)
  rcases (show i = 0 ∨ i = 1 ∨ i = 2 ∨ i = 3 ∨ i = 4 ∨ i = 5 by omega) with rfl | rfl | rfl | rfl | rfl | rfl <;> rfl
theorem OnlyB.setNewH {b p : Nat} {w w' : World} (h : OnlyB b w w') (hp : w.heap.size ≤ p) (i : Nat) (v : Value) : OnlyB b w (w'.setCell ⟨p, i, none⟩ v) := ⟨h.os, h.tape, h.output, by simpa using h.size, fun k hk hn => (Below.heap_setCell w' ⟨p, i, none⟩ v k (by dsimp only; omega)).trans (h.block k hk hn)⟩
theorem OnlyB.fclSt {b p : Nat} {w w' : World} (h : OnlyB b w w') (hp : w.heap.size ≤ p) (x : Fcl) : OnlyB b w (fclSt w' p x) := (((((h.setNewH hp 0 _).setNewH hp 1 _).setNewH hp 2 _).setNewH hp 3 _).setNewH hp 4 _).setNewH hp 5 _
theorem fclSt_below {B p : Nat} {w w' : World} (h : Below B w w') (hp : B ≤ p) (x : Fcl) : Below B w (fclSt w' p x) := (((((h.setCell hp _).setCell hp _).setCell hp _).setCell hp _).setCell hp _).setCell hp _
theorem FclB.load {w : World} {p : Nat} {x : Fcl} (h : FclB w p x) : (loadVar 26 ⟨p, 0, none⟩).run Try.prog w = .ok (.agg #[.int .i64 x.k, .int .i64 x.a, .int .i64 x.n, .string x.p, .string x.o, .string x.d]) w := by
  obtain ⟨h0, h1, h2, h3, h4, h5⟩ := h.c
  go_simp
theorem fieldFcl3 (k a n : Int) (p o d : ByteArray) (w : World) : (Instr.field 26 (.agg #[.int .i64 k, .int .i64 a, .int .i64 n, .string p, .string o, .string d]) 3).run Try.prog w = .ok (.string p) w := by kernel_rfl
/-- A path, or the top. -/
def PthE (s : ByteArray) : Prop := (PathOk s ∨ s.size = 0) ∧ s.size ≤ 9
/-- A drawn call. -/
def FclD (x : Fcl) : Prop := (1 ≤ x.k ∧ x.k ≤ 7) ∧ (0 ≤ x.a ∧ x.a ≤ 200) ∧ (0 ≤ x.n ∧ x.n ≤ 200) ∧ PthE x.p ∧ PthE x.o ∧ x.d.size ≤ 16
theorem pthE0 : PthE ⟨#[]⟩ := ⟨.inr rfl, by decide⟩
theorem pthF_9 (i : Nat) : (pthF i).size ≤ 9 := by unfold pthF; (repeat' split) <;> decide
theorem drsF_9 (i : Nat) : (drsF i).size ≤ 9 := by unfold drsF; (repeat' split) <;> decide
def lstF (i : Nat) : ByteArray := if i = 0 then ⟨#[]⟩ else if i = 1 then ⟨#[100, 105, 114]⟩ else ⟨#[97]⟩
def lstC : Array Value := #[.string ⟨#[]⟩, .string ⟨#[100, 105, 114]⟩, .string ⟨#[97]⟩]
theorem lstC_strs (w : World) : Strs (w.alloc (.cells lstC 9)) (some ⟨w.heap.size, 0, none⟩) 3 lstF := fun i hi => by
  refine ⟨w.heap.size, 0, rfl, ?_⟩
  rcases (show i = 0 ∨ i = 1 ∨ i = 2 by omega) with rfl | rfl | rfl <;> simp [lstC, lstF]
theorem lstF_ok (i : Nat) : PthE (lstF i) := by
  unfold lstF
  split
  · exact pthE0
  split
  · exact ⟨.inl (nm_path (by refine ⟨by decide, by decide, by decide, ?_⟩; decide)), by decide⟩
  · exact ⟨.inl (nm_path (by refine ⟨by decide, by decide, by decide, ?_⟩; decide)), by decide⟩

set_option maxRecDepth 100000 in
theorem path_9 (b : Nat) (a : Option Addr) (len cap A : Nat) (z : Nat → Nat) (hz : ∀ i, z i < 256) (hA : A ≤ 100000) (hl : len ≤ maxLen) (hsep : ∀ x, 0 < len → a = some x → x.block ≠ b) (w : World) (h : SrcA w b a len cap A) (hc : Code8 w a len z) :
    Calls Try.prog 65 #[.pointer (some ⟨b, 0, none⟩)] w fun e w' => (∃ s : ByteArray, PthE s ∧ e = .returned (.string s)) ∧ SrcA w' b a len cap (A + 1) ∧ OnlyB b w w' := by
  have hbl := h.lt
  have L : Below w.heap.size w (w.alloc (.cells pthC 9)) := (Below.refl _ _).alloc (Nat.le_refl _) _
  have PK : Hid (Calls Try.prog 66 #[.pointer (some ⟨b, 0, none⟩), .slice (some ⟨w.heap.size, 0, none⟩) 9 9] (w.alloc (.cells pthC 9)) fun e w' => (∃ r : Nat, r < 9 ∧ e = .returned (.string (pthF r))) ∧ SrcA w' b a len cap (A + 1) ∧ OnlyB b (w.alloc (.cells pthC 9)) w') := pick_n 9 (by omega) (by omega) pthF w.heap.size b a len cap A z hz hA hl hsep _ (h.below L) (hc.below L) (by omega) (pthC_strs w)
  have HL : Hid (OnlyB b w (w.alloc (.cells pthC 9))) := (OnlyB.refl b w).below L
  clear h hc hsep hz L
  unfold pthC at PK HL
  go_enter Try.func65, Try.ntmps65
  go_wp2_with fail
  refine PK.out.mono ?_
  rintro e w1 ⟨⟨r, hr, rfl⟩, hs1, ho1⟩
  have HS1 : Hid (SrcA w1 b a len cap (A + 1)) := hs1
  have HO1 : Hid (OnlyB b w w1) := HL.out.trans ho1
  have HD : Hid (PthE (pthF r)) := ⟨.inl (pthF_ok r), pthF_9 r⟩
  clear hs1 ho1 PK HL
  generalize pthF r = s at *
  go_wp2
  go_ret
  exact ⟨⟨s, HD.out, rfl⟩, HS1.out, HO1.out⟩
/-- The source, the two variables of fileCall and what is not theirs. -/
structure FcS (w0 u : World) (b : Nat) (a : Option Addr) (len cap A q : Nat) (z : Nat → Nat) (x : Fcl) : Prop where
  src : SrcA u b a len cap A
  cd : Code8 u a len z
  box : FclB u q x
  only : OnlyB b w0 u
  ge : w0.heap.size ≤ q
  ne : q ≠ b
theorem FcS.draw {w0 u u' : World} {b : Nat} {a : Option Addr} {len cap A A' q : Nat} {z : Nat → Nat} {x : Fcl} (hsep : ∀ x, 0 < len → a = some x → x.block ≠ b) (h : FcS w0 u b a len cap A q z x) (hs : SrcA u' b a len cap A') (ho : OnlyB b u u') : FcS w0 u' b a len cap A' q z x :=
  ⟨hs, h.cd.onlyB ho hsep, h.box.onlyB ho h.ne, h.only.trans ho, h.ge, h.ne⟩
theorem FcS.st {w0 u : World} {b : Nat} {a : Option Addr} {len cap A q : Nat} {z : Nat → Nat} {x : Fcl} (hlt : ∀ x, 0 < len → a = some x → x.block < w0.heap.size) (h : FcS w0 u b a len cap A q z x) (y : Fcl) : FcS w0 (fclSt u q y) b a len cap A q z y := by
  have hne := h.ne
  have hge := h.ge
  refine ⟨h.src.ofBlock (fclSt_block (Ne.symm hne)), fun i hi => ?_, h.box.st y, h.only.fclSt hge y, hge, hne⟩
  obtain ⟨g, o, e, c⟩ := h.cd i hi
  refine ⟨g, o, e, ?_⟩
  have h1 : g < w0.heap.size := hlt ⟨g, o, none⟩ (by omega) e
  have h2 : (fclSt u q y).heap[g]? = u.heap[g]? := fclSt_block (by omega)
  generalize fclSt u q y = u2 at h2
  exact (World.cell?_of_block (w := u) (w' := u2) (a := ⟨g, o + i, none⟩) h2).trans c

set_option maxRecDepth 100000 in
set_option maxHeartbeats 4000000 in
theorem fileCall_ex (b : Nat) (a : Option Addr) (len cap A : Nat) (z : Nat → Nat) (hz : ∀ i, z i < 256) (hA : A ≤ 90000) (hl : len ≤ maxLen) (hsep : ∀ x, 0 < len → a = some x → x.block ≠ b) (w : World) (h : SrcA w b a len cap A) (hc : Code8 w a len z) :
    Calls Try.prog 31 #[.pointer (some ⟨b, 0, none⟩)] w fun e w' => (∃ x : Fcl, e = .returned (.agg #[.int .i64 x.k, .int .i64 x.a, .int .i64 x.n, .string x.p, .string x.o, .string x.d]) ∧ FclD x) ∧ SrcA w' b a len cap (A + 10) ∧ OnlyB b w w' := by
  have hbl := h.lt
  have hcl : ∀ x, 0 < len → a = some x → x.block < w.heap.size := fun x h0 e => hc.lt x h0 e
  have NX : Hid (∀ (n : Nat) (A : Nat) (u : World), A ≤ 100000 → SrcA u b a len cap A → Code8 u a len z → 2 ≤ n → n ≤ 9 → Calls Try.prog 63 #[.pointer (some ⟨b, 0, none⟩), .int .i64 (n : Int)] u fun e w' => (∃ r : Nat, r < n ∧ e = .returned (.int .i64 (r : Int))) ∧ SrcA w' b a len cap (A + 1) ∧ OnlyB b u w') := fun n A u h1 h2 h3 h4 h5 => next_ex n h4 (by omega) b a len cap A z hz h1 hl hsep u h2 h3
  have PA : Hid (∀ (A : Nat) (u : World), A ≤ 100000 → SrcA u b a len cap A → Code8 u a len z → Calls Try.prog 65 #[.pointer (some ⟨b, 0, none⟩)] u fun e w' => (∃ s : ByteArray, PthE s ∧ e = .returned (.string s)) ∧ SrcA w' b a len cap (A + 1) ∧ OnlyB b u w') := fun A u h1 h2 h3 => path_9 b a len cap A z hz h1 hl hsep u h2 h3
  have DT : Hid (∀ (A : Nat) (u : World), A ≤ 100000 → SrcA u b a len cap A → Code8 u a len z → Calls Try.prog 32 #[.pointer (some ⟨b, 0, none⟩)] u fun e w' => (∃ s : ByteArray, s.size ≤ 16 ∧ e = .returned (.string s)) ∧ SrcA w' b a len cap (A + 1) ∧ OnlyB b u w') := fun A u h1 h2 h3 => datum_f b a len cap A z hz h1 hl hsep u h2 h3
  have PK : Hid (∀ (A : Nat) (u : World), A ≤ 100000 → SrcA u b a len cap A → Code8 u a len z → Calls Try.prog 66 #[.pointer (some ⟨b, 0, none⟩), .slice (some ⟨u.heap.size, 0, none⟩) 3 3] (u.alloc (.cells drsC 9)) fun e w' => (∃ s : ByteArray, PthE s ∧ e = .returned (.string s)) ∧ SrcA w' b a len cap (A + 1) ∧ OnlyB b u w') := fun A u h1 h2 h3 => by
    have hbl := h2.lt
    have LB : Below u.heap.size u (u.alloc (.cells drsC 9)) := (Below.refl _ _).alloc (Nat.le_refl _) _
    refine (pick_n 3 (by omega) (by omega) drsF u.heap.size b a len cap A z hz h1 hl hsep _ (h2.below LB) (h3.below LB) (by omega) (drsC_strs u)).mono ?_
    rintro e w' ⟨⟨r, _, rfl⟩, hs, ho⟩
    exact ⟨⟨_, ⟨.inl (drsF_ok r), drsF_9 r⟩, rfl⟩, hs, ((OnlyB.refl b u).below LB).trans ho⟩
  unfold drsC at PK
  have PL : Hid (∀ (A : Nat) (u : World), A ≤ 100000 → SrcA u b a len cap A → Code8 u a len z → Calls Try.prog 66 #[.pointer (some ⟨b, 0, none⟩), .slice (some ⟨u.heap.size, 0, none⟩) 3 3] (u.alloc (.cells lstC 9)) fun e w' => (∃ s : ByteArray, PthE s ∧ e = .returned (.string s)) ∧ SrcA w' b a len cap (A + 1) ∧ OnlyB b u w') := fun A u h1 h2 h3 => by
    have hbl := h2.lt
    have LB : Below u.heap.size u (u.alloc (.cells lstC 9)) := (Below.refl _ _).alloc (Nat.le_refl _) _
    refine (pick_n 3 (by omega) (by omega) lstF u.heap.size b a len cap A z hz h1 hl hsep _ (h2.below LB) (h3.below LB) (by omega) (lstC_strs u)).mono ?_
    rintro e w' ⟨⟨r, _, rfl⟩, hs, ho⟩
    exact ⟨⟨_, lstF_ok r, rfl⟩, hs, ((OnlyB.refl b u).below LB).trans ho⟩
  unfold lstC at PL
  have W1 : Below w.heap.size w (w.alloc (.cells #[.int .i64 0, .int .i64 0, .int .i64 0, .string ⟨#[]⟩, .string ⟨#[]⟩, .string ⟨#[]⟩] 26)) := (Below.refl _ _).alloc (Nat.le_refl _) _
  have R0 : Hid (FcS w (w.alloc (.cells #[.int .i64 0, .int .i64 0, .int .i64 0, .string ⟨#[]⟩, .string ⟨#[]⟩, .string ⟨#[]⟩] 26)) b a len cap A w.heap.size z fclZ) := ⟨h.below W1, hc.below W1, FclB.madeOf (x := fclZ) rfl, (OnlyB.refl _ _).below W1, Nat.le_refl _, by omega⟩
  have HSEP : Hid (∀ x, 0 < len → a = some x → x.block ≠ b) := hsep
  have HCL : Hid (∀ x, 0 < len → a = some x → x.block < w.heap.size) := hcl
  have HA : Hid (A ≤ 90000) := hA
  clear h hc W1 hbl hsep hcl hA hz hl
  go_enter Try.func31, Try.ntmps31
  go_wp2_with fail
  generalize (w.alloc (.cells #[.int .i64 0, .int .i64 0, .int .i64 0, .string ⟨#[]⟩, .string ⟨#[]⟩, .string ⟨#[]⟩] 26)) = v0 at *
  obtain ⟨q0, hq0⟩ : ∃ x, x = w.heap.size := ⟨_, rfl⟩
  rw [← hq0] at R0 ⊢
  clear hq0
  refine (PA.out A v0 (by have := HA.out; omega) R0.out.src R0.out.cd).mono ?_
  rintro e u1 ⟨⟨p0, hp0, rfl⟩, hs, ho⟩
  replace R0 : Hid (FcS w u1 b a len cap (A + 1) q0 z fclZ) := R0.out.draw HSEP.out hs ho
  have HP0 : Hid (PthE p0) := hp0
  clear hs ho
  clear hp0
  go_wp2_with fail
  refine (NX.out 6 (A + 1) u1 (by have := HA.out; omega) R0.out.src R0.out.cd (by omega) (by omega)).mono ?_
  rintro e u2 ⟨⟨a0, ha0, rfl⟩, hs, ho⟩
  replace R0 : Hid (FcS w u2 b a len cap (A + 1 + 1) q0 z fclZ) := R0.out.draw HSEP.out hs ho
  have HA0 : Hid (a0 < 6) := ha0
  clear hs ho
  clear ha0
  go_wp2_with fail
  refine (DT.out (A + 1 + 1) u2 (by have := HA.out; omega) R0.out.src R0.out.cd).mono ?_
  rintro e u3 ⟨⟨d0, hd0, rfl⟩, hs, ho⟩
  replace R0 : Hid (FcS w u3 b a len cap (A + 1 + 1 + 1) q0 z fclZ) := R0.out.draw HSEP.out hs ho
  have HD0 : Hid (d0.size ≤ 16) := hd0
  clear hs ho
  clear hd0
  have BX : Below u3.heap.size u3 (u3.alloc (.cells #[.int .i64 2, .int .i64 (a0 : Int), .int .i64 0, .string p0, .string ⟨#[]⟩, .string d0] 26)) := (Below.refl _ _).alloc (Nat.le_refl _) _
  have X1 : Hid (FcS w (u3.alloc (.cells #[.int .i64 2, .int .i64 (a0 : Int), .int .i64 0, .string p0, .string ⟨#[]⟩, .string d0] 26)) b a len cap (A + 1 + 1 + 1) u3.heap.size z ⟨2, (a0 : Int), 0, p0, ⟨#[]⟩, d0⟩) := ⟨R0.out.src.below BX, R0.out.cd.below BX, FclB.madeOf (x := ⟨2, (a0 : Int), 0, p0, ⟨#[]⟩, d0⟩) rfl, R0.out.only.below BX, R0.out.only.size, by have := R0.out.src.lt; omega⟩
  have HNE : Hid (u3.heap.size ≠ q0) := by have := R0.out.box.lt; show _ ≠ _; omega
  replace R0 : Hid (FcS w (u3.alloc (.cells #[.int .i64 2, .int .i64 (a0 : Int), .int .i64 0, .string p0, .string ⟨#[]⟩, .string d0] 26)) b a len cap (A + 1 + 1 + 1) q0 z fclZ) := ⟨R0.out.src.below BX, R0.out.cd.below BX, R0.out.box.below BX, R0.out.only.below BX, R0.out.ge, R0.out.ne⟩
  have HX1 : Hid (FclD ⟨2, (a0 : Int), 0, p0, ⟨#[]⟩, d0⟩) := ⟨⟨by dsimp only; omega, by dsimp only; omega⟩, ⟨by dsimp only; omega, by have := HA0.out; dsimp only; omega⟩, ⟨by dsimp only; omega, by dsimp only; omega⟩, HP0.out, pthE0, HD0.out⟩
  clear BX HP0 HA0 HD0
  go_wp2_with fail
  generalize (u3.alloc (.cells #[.int .i64 2, .int .i64 (a0 : Int), .int .i64 0, .string p0, .string ⟨#[]⟩, .string d0] 26)) = v1 at *
  obtain ⟨q1, hq1⟩ : ∃ x, x = u3.heap.size := ⟨_, rfl⟩
  rw [← hq1] at X1 HNE ⊢
  clear hq1
  generalize hy0 : (⟨2, (a0 : Int), 0, p0, ⟨#[]⟩, d0⟩ : Fcl) = y0 at *
  clear hy0
  refine (NX.out 9 (A + 1 + 1 + 1) v1 (by have := HA.out; omega) R0.out.src R0.out.cd (by omega) (by omega)).mono ?_
  rintro e u4 ⟨⟨k, hk, rfl⟩, hs, ho⟩
  replace R0 : Hid (FcS w u4 b a len cap (A + 1 + 1 + 1 + 1) q0 z fclZ) := R0.out.draw HSEP.out hs ho
  replace X1 : Hid (FcS w u4 b a len cap (A + 1 + 1 + 1 + 1) q1 z y0) := X1.out.draw HSEP.out hs ho
  clear hs ho
  obtain ⟨K, hK⟩ : ∃ K : Int, K = (k : Int) := ⟨_, rfl⟩
  rw [← hK]
  have HK : K = 0 ∨ K = 1 ∨ K = 2 ∨ K = 3 ∨ K = 4 ∨ K = 5 ∨ K = 6 ∨ K = 7 ∨ K = 8 := by omega
  clear hK hk k
  rcases HK with rfl | rfl | rfl | rfl | rfl | rfl | rfl | rfl | rfl
  · go_wp2_with fail
    refine (PK.out (A + 1 + 1 + 1 + 1) u4 (by have := HA.out; omega) R0.out.src R0.out.cd).mono ?_
    rintro e u5 ⟨⟨p1, hp1, rfl⟩, hs, ho⟩
    replace R0 : Hid (FcS w u5 b a len cap (A + 1 + 1 + 1 + 1 + 1) q0 z fclZ) := R0.out.draw HSEP.out hs ho
    replace X1 : Hid (FcS w u5 b a len cap (A + 1 + 1 + 1 + 1 + 1) q1 z y0) := X1.out.draw HSEP.out hs ho
    have HP1 : Hid (PthE p1) := hp1
    clear hs ho
    clear hp1
    have X2 : Hid (FcS w (fclSt u5 q1 ⟨1, 0, 0, p1, ⟨#[]⟩, ⟨#[]⟩⟩) b a len cap (A + 1 + 1 + 1 + 1 + 1) q1 z ⟨1, 0, 0, p1, ⟨#[]⟩, ⟨#[]⟩⟩) := X1.out.st HCL.out ⟨1, 0, 0, p1, ⟨#[]⟩, ⟨#[]⟩⟩
    have R2 : Hid (FcS w (fclSt u5 q1 ⟨1, 0, 0, p1, ⟨#[]⟩, ⟨#[]⟩⟩) b a len cap (A + 1 + 1 + 1 + 1 + 1) q0 z fclZ) := ⟨X2.out.src, X2.out.cd, R0.out.box.ofBlock (fclSt_block (Ne.symm HNE.out)), X2.out.only, R0.out.ge, R0.out.ne⟩
    have HY : Hid (FclD ⟨1, 0, 0, p1, ⟨#[]⟩, ⟨#[]⟩⟩) := ⟨⟨by dsimp only; omega, by dsimp only; omega⟩, ⟨by dsimp only; omega, by dsimp only; omega⟩, ⟨by dsimp only; omega, by dsimp only; omega⟩, HP1.out, pthE0, by show (0 : Nat) ≤ 16; omega⟩
    obtain ⟨k0, k1, k2, k3, k4, k5⟩ := X1.out.box.c
    have f0 := X1.out.box.fr 0
    have f1 := X1.out.box.fr 1
    have f2 := X1.out.box.fr 2
    have f3 := X1.out.box.fr 3
    have f4 := X1.out.box.fr 4
    have f5 := X1.out.box.fr 5
    clear X1 R0
    go_upto_region 16 with fail
    clear k0 k1 k2 k3 k4 k5 f0 f1 f2 f3 f4 f5
    change Code.wp _ _ _ _ (fclSt u5 q1 ⟨1, 0, 0, p1, ⟨#[]⟩, ⟨#[]⟩⟩)
    generalize (fclSt u5 q1 ⟨1, 0, 0, p1, ⟨#[]⟩, ⟨#[]⟩⟩) = v2 at X2 R2 ⊢
    generalize (⟨1, 0, 0, p1, ⟨#[]⟩, ⟨#[]⟩⟩ : Fcl) = y at X2 HY
    have X3 : Hid (FclB (fclSt v2 q0 y) q0 y) := R2.out.box.st y
    have QS : Hid (SrcA (fclSt v2 q0 y) b a len cap (A + 10)) := (R2.out.src.ofBlock (fclSt_block (Ne.symm R2.out.ne))).mono (by omega)
    have QO : Hid (OnlyB b w (fclSt v2 q0 y)) := R2.out.only.fclSt R2.out.ge y
    obtain ⟨k0, k1, k2, k3, k4, k5⟩ := X2.out.box.c
    obtain ⟨r0, r1, r2, r3, r4, r5⟩ := R2.out.box.c
    have f0 := R2.out.box.fr 0
    have f1 := R2.out.box.fr 1
    have f2 := R2.out.box.fr 2
    have f3 := R2.out.box.fr 3
    have f4 := R2.out.box.fr 4
    have f5 := R2.out.box.fr 5
    clear X2 R2
    go_wp2
    exact ret_cell (b := q0) (v := .agg #[.int .i64 y.k, .int .i64 y.a, .int .i64 y.n, .string y.p, .string y.o, .string y.d]) Try.results31 rfl X3.out.load ⟨⟨y, rfl, HY.out⟩, QS.out, QO.out⟩
  · go_wp2_with fail
    refine (PK.out (A + 1 + 1 + 1 + 1) u4 (by have := HA.out; omega) R0.out.src R0.out.cd).mono ?_
    rintro e u5 ⟨⟨p1, hp1, rfl⟩, hs, ho⟩
    replace R0 : Hid (FcS w u5 b a len cap (A + 1 + 1 + 1 + 1 + 1) q0 z fclZ) := R0.out.draw HSEP.out hs ho
    replace X1 : Hid (FcS w u5 b a len cap (A + 1 + 1 + 1 + 1 + 1) q1 z y0) := X1.out.draw HSEP.out hs ho
    have HP1 : Hid (PthE p1) := hp1
    clear hs ho
    clear hp1
    have X2 : Hid (FcS w (fclSt u5 q1 ⟨1, 0, 0, p1, ⟨#[]⟩, ⟨#[]⟩⟩) b a len cap (A + 1 + 1 + 1 + 1 + 1) q1 z ⟨1, 0, 0, p1, ⟨#[]⟩, ⟨#[]⟩⟩) := X1.out.st HCL.out ⟨1, 0, 0, p1, ⟨#[]⟩, ⟨#[]⟩⟩
    have R2 : Hid (FcS w (fclSt u5 q1 ⟨1, 0, 0, p1, ⟨#[]⟩, ⟨#[]⟩⟩) b a len cap (A + 1 + 1 + 1 + 1 + 1) q0 z fclZ) := ⟨X2.out.src, X2.out.cd, R0.out.box.ofBlock (fclSt_block (Ne.symm HNE.out)), X2.out.only, R0.out.ge, R0.out.ne⟩
    have HY : Hid (FclD ⟨1, 0, 0, p1, ⟨#[]⟩, ⟨#[]⟩⟩) := ⟨⟨by dsimp only; omega, by dsimp only; omega⟩, ⟨by dsimp only; omega, by dsimp only; omega⟩, ⟨by dsimp only; omega, by dsimp only; omega⟩, HP1.out, pthE0, by show (0 : Nat) ≤ 16; omega⟩
    obtain ⟨k0, k1, k2, k3, k4, k5⟩ := X1.out.box.c
    have f0 := X1.out.box.fr 0
    have f1 := X1.out.box.fr 1
    have f2 := X1.out.box.fr 2
    have f3 := X1.out.box.fr 3
    have f4 := X1.out.box.fr 4
    have f5 := X1.out.box.fr 5
    clear X1 R0
    go_upto_region 16 with fail
    clear k0 k1 k2 k3 k4 k5 f0 f1 f2 f3 f4 f5
    change Code.wp _ _ _ _ (fclSt u5 q1 ⟨1, 0, 0, p1, ⟨#[]⟩, ⟨#[]⟩⟩)
    generalize (fclSt u5 q1 ⟨1, 0, 0, p1, ⟨#[]⟩, ⟨#[]⟩⟩) = v2 at X2 R2 ⊢
    generalize (⟨1, 0, 0, p1, ⟨#[]⟩, ⟨#[]⟩⟩ : Fcl) = y at X2 HY
    have X3 : Hid (FclB (fclSt v2 q0 y) q0 y) := R2.out.box.st y
    have QS : Hid (SrcA (fclSt v2 q0 y) b a len cap (A + 10)) := (R2.out.src.ofBlock (fclSt_block (Ne.symm R2.out.ne))).mono (by omega)
    have QO : Hid (OnlyB b w (fclSt v2 q0 y)) := R2.out.only.fclSt R2.out.ge y
    obtain ⟨k0, k1, k2, k3, k4, k5⟩ := X2.out.box.c
    obtain ⟨r0, r1, r2, r3, r4, r5⟩ := R2.out.box.c
    have f0 := R2.out.box.fr 0
    have f1 := R2.out.box.fr 1
    have f2 := R2.out.box.fr 2
    have f3 := R2.out.box.fr 3
    have f4 := R2.out.box.fr 4
    have f5 := R2.out.box.fr 5
    clear X2 R2
    go_wp2
    exact ret_cell (b := q0) (v := .agg #[.int .i64 y.k, .int .i64 y.a, .int .i64 y.n, .string y.p, .string y.o, .string y.d]) Try.results31 rfl X3.out.load ⟨⟨y, rfl, HY.out⟩, QS.out, QO.out⟩
  · go_wp2_with fail
    refine (PA.out (A + 1 + 1 + 1 + 1) u4 (by have := HA.out; omega) R0.out.src R0.out.cd).mono ?_
    rintro e u5 ⟨⟨p1, hp1, rfl⟩, hs, ho⟩
    replace R0 : Hid (FcS w u5 b a len cap (A + 1 + 1 + 1 + 1 + 1) q0 z fclZ) := R0.out.draw HSEP.out hs ho
    replace X1 : Hid (FcS w u5 b a len cap (A + 1 + 1 + 1 + 1 + 1) q1 z y0) := X1.out.draw HSEP.out hs ho
    have HP1 : Hid (PthE p1) := hp1
    clear hs ho
    clear hp1
    have X2 : Hid (FcS w (fclSt u5 q1 ⟨3, 0, 200, p1, ⟨#[]⟩, ⟨#[]⟩⟩) b a len cap (A + 1 + 1 + 1 + 1 + 1) q1 z ⟨3, 0, 200, p1, ⟨#[]⟩, ⟨#[]⟩⟩) := X1.out.st HCL.out ⟨3, 0, 200, p1, ⟨#[]⟩, ⟨#[]⟩⟩
    have R2 : Hid (FcS w (fclSt u5 q1 ⟨3, 0, 200, p1, ⟨#[]⟩, ⟨#[]⟩⟩) b a len cap (A + 1 + 1 + 1 + 1 + 1) q0 z fclZ) := ⟨X2.out.src, X2.out.cd, R0.out.box.ofBlock (fclSt_block (Ne.symm HNE.out)), X2.out.only, R0.out.ge, R0.out.ne⟩
    have HY : Hid (FclD ⟨3, 0, 200, p1, ⟨#[]⟩, ⟨#[]⟩⟩) := ⟨⟨by dsimp only; omega, by dsimp only; omega⟩, ⟨by dsimp only; omega, by dsimp only; omega⟩, ⟨by dsimp only; omega, by dsimp only; omega⟩, HP1.out, pthE0, by show (0 : Nat) ≤ 16; omega⟩
    obtain ⟨k0, k1, k2, k3, k4, k5⟩ := X1.out.box.c
    have f0 := X1.out.box.fr 0
    have f1 := X1.out.box.fr 1
    have f2 := X1.out.box.fr 2
    have f3 := X1.out.box.fr 3
    have f4 := X1.out.box.fr 4
    have f5 := X1.out.box.fr 5
    clear X1 R0
    go_upto_region 16 with fail
    clear k0 k1 k2 k3 k4 k5 f0 f1 f2 f3 f4 f5
    change Code.wp _ _ _ _ (fclSt u5 q1 ⟨3, 0, 200, p1, ⟨#[]⟩, ⟨#[]⟩⟩)
    generalize (fclSt u5 q1 ⟨3, 0, 200, p1, ⟨#[]⟩, ⟨#[]⟩⟩) = v2 at X2 R2 ⊢
    generalize (⟨3, 0, 200, p1, ⟨#[]⟩, ⟨#[]⟩⟩ : Fcl) = y at X2 HY
    have X3 : Hid (FclB (fclSt v2 q0 y) q0 y) := R2.out.box.st y
    have QS : Hid (SrcA (fclSt v2 q0 y) b a len cap (A + 10)) := (R2.out.src.ofBlock (fclSt_block (Ne.symm R2.out.ne))).mono (by omega)
    have QO : Hid (OnlyB b w (fclSt v2 q0 y)) := R2.out.only.fclSt R2.out.ge y
    obtain ⟨k0, k1, k2, k3, k4, k5⟩ := X2.out.box.c
    obtain ⟨r0, r1, r2, r3, r4, r5⟩ := R2.out.box.c
    have f0 := R2.out.box.fr 0
    have f1 := R2.out.box.fr 1
    have f2 := R2.out.box.fr 2
    have f3 := R2.out.box.fr 3
    have f4 := R2.out.box.fr 4
    have f5 := R2.out.box.fr 5
    clear X2 R2
    go_wp2
    exact ret_cell (b := q0) (v := .agg #[.int .i64 y.k, .int .i64 y.a, .int .i64 y.n, .string y.p, .string y.o, .string y.d]) Try.results31 rfl X3.out.load ⟨⟨y, rfl, HY.out⟩, QS.out, QO.out⟩
  · go_wp2_with fail
    refine (PA.out (A + 1 + 1 + 1 + 1) u4 (by have := HA.out; omega) R0.out.src R0.out.cd).mono ?_
    rintro e u5 ⟨⟨p1, hp1, rfl⟩, hs, ho⟩
    replace R0 : Hid (FcS w u5 b a len cap (A + 1 + 1 + 1 + 1 + 1) q0 z fclZ) := R0.out.draw HSEP.out hs ho
    replace X1 : Hid (FcS w u5 b a len cap (A + 1 + 1 + 1 + 1 + 1) q1 z y0) := X1.out.draw HSEP.out hs ho
    have HP1 : Hid (PthE p1) := hp1
    clear hs ho
    clear hp1
    go_wp2_with fail
    refine (NX.out 9 (A + 1 + 1 + 1 + 1 + 1) u5 (by have := HA.out; omega) R0.out.src R0.out.cd (by omega) (by omega)).mono ?_
    rintro e u6 ⟨⟨n1, hn1, rfl⟩, hs, ho⟩
    replace R0 : Hid (FcS w u6 b a len cap (A + 1 + 1 + 1 + 1 + 1 + 1) q0 z fclZ) := R0.out.draw HSEP.out hs ho
    replace X1 : Hid (FcS w u6 b a len cap (A + 1 + 1 + 1 + 1 + 1 + 1) q1 z y0) := X1.out.draw HSEP.out hs ho
    have HN1 : Hid (n1 < 9) := hn1
    clear hs ho
    clear hn1
    have X2 : Hid (FcS w (fclSt u6 q1 ⟨4, 0, (n1 : Int), p1, ⟨#[]⟩, ⟨#[]⟩⟩) b a len cap (A + 1 + 1 + 1 + 1 + 1 + 1) q1 z ⟨4, 0, (n1 : Int), p1, ⟨#[]⟩, ⟨#[]⟩⟩) := X1.out.st HCL.out ⟨4, 0, (n1 : Int), p1, ⟨#[]⟩, ⟨#[]⟩⟩
    have R2 : Hid (FcS w (fclSt u6 q1 ⟨4, 0, (n1 : Int), p1, ⟨#[]⟩, ⟨#[]⟩⟩) b a len cap (A + 1 + 1 + 1 + 1 + 1 + 1) q0 z fclZ) := ⟨X2.out.src, X2.out.cd, R0.out.box.ofBlock (fclSt_block (Ne.symm HNE.out)), X2.out.only, R0.out.ge, R0.out.ne⟩
    have HY : Hid (FclD ⟨4, 0, (n1 : Int), p1, ⟨#[]⟩, ⟨#[]⟩⟩) := ⟨⟨by dsimp only; omega, by dsimp only; omega⟩, ⟨by dsimp only; omega, by dsimp only; omega⟩, ⟨by have := HN1.out; dsimp only; omega, by have := HN1.out; dsimp only; omega⟩, HP1.out, pthE0, by show (0 : Nat) ≤ 16; omega⟩
    obtain ⟨k0, k1, k2, k3, k4, k5⟩ := X1.out.box.c
    have f0 := X1.out.box.fr 0
    have f1 := X1.out.box.fr 1
    have f2 := X1.out.box.fr 2
    have f3 := X1.out.box.fr 3
    have f4 := X1.out.box.fr 4
    have f5 := X1.out.box.fr 5
    clear X1 R0
    go_upto_region 16 with fail
    clear k0 k1 k2 k3 k4 k5 f0 f1 f2 f3 f4 f5
    change Code.wp _ _ _ _ (fclSt u6 q1 ⟨4, 0, (n1 : Int), p1, ⟨#[]⟩, ⟨#[]⟩⟩)
    generalize (fclSt u6 q1 ⟨4, 0, (n1 : Int), p1, ⟨#[]⟩, ⟨#[]⟩⟩) = v2 at X2 R2 ⊢
    generalize (⟨4, 0, (n1 : Int), p1, ⟨#[]⟩, ⟨#[]⟩⟩ : Fcl) = y at X2 HY
    have X3 : Hid (FclB (fclSt v2 q0 y) q0 y) := R2.out.box.st y
    have QS : Hid (SrcA (fclSt v2 q0 y) b a len cap (A + 10)) := (R2.out.src.ofBlock (fclSt_block (Ne.symm R2.out.ne))).mono (by omega)
    have QO : Hid (OnlyB b w (fclSt v2 q0 y)) := R2.out.only.fclSt R2.out.ge y
    obtain ⟨k0, k1, k2, k3, k4, k5⟩ := X2.out.box.c
    obtain ⟨r0, r1, r2, r3, r4, r5⟩ := R2.out.box.c
    have f0 := R2.out.box.fr 0
    have f1 := R2.out.box.fr 1
    have f2 := R2.out.box.fr 2
    have f3 := R2.out.box.fr 3
    have f4 := R2.out.box.fr 4
    have f5 := R2.out.box.fr 5
    clear X2 R2
    go_wp2
    exact ret_cell (b := q0) (v := .agg #[.int .i64 y.k, .int .i64 y.a, .int .i64 y.n, .string y.p, .string y.o, .string y.d]) Try.results31 rfl X3.out.load ⟨⟨y, rfl, HY.out⟩, QS.out, QO.out⟩
  · go_wp2_with fail
    refine (PA.out (A + 1 + 1 + 1 + 1) u4 (by have := HA.out; omega) R0.out.src R0.out.cd).mono ?_
    rintro e u5 ⟨⟨p1, hp1, rfl⟩, hs, ho⟩
    replace R0 : Hid (FcS w u5 b a len cap (A + 1 + 1 + 1 + 1 + 1) q0 z fclZ) := R0.out.draw HSEP.out hs ho
    replace X1 : Hid (FcS w u5 b a len cap (A + 1 + 1 + 1 + 1 + 1) q1 z y0) := X1.out.draw HSEP.out hs ho
    have HP1 : Hid (PthE p1) := hp1
    clear hs ho
    clear hp1
    go_wp2_with fail
    refine (PA.out (A + 1 + 1 + 1 + 1 + 1) u5 (by have := HA.out; omega) R0.out.src R0.out.cd).mono ?_
    rintro e u6 ⟨⟨p2, hp2, rfl⟩, hs, ho⟩
    replace R0 : Hid (FcS w u6 b a len cap (A + 1 + 1 + 1 + 1 + 1 + 1) q0 z fclZ) := R0.out.draw HSEP.out hs ho
    replace X1 : Hid (FcS w u6 b a len cap (A + 1 + 1 + 1 + 1 + 1 + 1) q1 z y0) := X1.out.draw HSEP.out hs ho
    have HP2 : Hid (PthE p2) := hp2
    clear hs ho
    clear hp2
    have X2 : Hid (FcS w (fclSt u6 q1 ⟨5, 0, 0, p1, p2, ⟨#[]⟩⟩) b a len cap (A + 1 + 1 + 1 + 1 + 1 + 1) q1 z ⟨5, 0, 0, p1, p2, ⟨#[]⟩⟩) := X1.out.st HCL.out ⟨5, 0, 0, p1, p2, ⟨#[]⟩⟩
    have R2 : Hid (FcS w (fclSt u6 q1 ⟨5, 0, 0, p1, p2, ⟨#[]⟩⟩) b a len cap (A + 1 + 1 + 1 + 1 + 1 + 1) q0 z fclZ) := ⟨X2.out.src, X2.out.cd, R0.out.box.ofBlock (fclSt_block (Ne.symm HNE.out)), X2.out.only, R0.out.ge, R0.out.ne⟩
    have HY : Hid (FclD ⟨5, 0, 0, p1, p2, ⟨#[]⟩⟩) := ⟨⟨by dsimp only; omega, by dsimp only; omega⟩, ⟨by dsimp only; omega, by dsimp only; omega⟩, ⟨by dsimp only; omega, by dsimp only; omega⟩, HP1.out, HP2.out, by show (0 : Nat) ≤ 16; omega⟩
    obtain ⟨k0, k1, k2, k3, k4, k5⟩ := X1.out.box.c
    have f0 := X1.out.box.fr 0
    have f1 := X1.out.box.fr 1
    have f2 := X1.out.box.fr 2
    have f3 := X1.out.box.fr 3
    have f4 := X1.out.box.fr 4
    have f5 := X1.out.box.fr 5
    clear X1 R0
    go_upto_region 16 with fail
    clear k0 k1 k2 k3 k4 k5 f0 f1 f2 f3 f4 f5
    change Code.wp _ _ _ _ (fclSt u6 q1 ⟨5, 0, 0, p1, p2, ⟨#[]⟩⟩)
    generalize (fclSt u6 q1 ⟨5, 0, 0, p1, p2, ⟨#[]⟩⟩) = v2 at X2 R2 ⊢
    generalize (⟨5, 0, 0, p1, p2, ⟨#[]⟩⟩ : Fcl) = y at X2 HY
    have X3 : Hid (FclB (fclSt v2 q0 y) q0 y) := R2.out.box.st y
    have QS : Hid (SrcA (fclSt v2 q0 y) b a len cap (A + 10)) := (R2.out.src.ofBlock (fclSt_block (Ne.symm R2.out.ne))).mono (by omega)
    have QO : Hid (OnlyB b w (fclSt v2 q0 y)) := R2.out.only.fclSt R2.out.ge y
    obtain ⟨k0, k1, k2, k3, k4, k5⟩ := X2.out.box.c
    obtain ⟨r0, r1, r2, r3, r4, r5⟩ := R2.out.box.c
    have f0 := R2.out.box.fr 0
    have f1 := R2.out.box.fr 1
    have f2 := R2.out.box.fr 2
    have f3 := R2.out.box.fr 3
    have f4 := R2.out.box.fr 4
    have f5 := R2.out.box.fr 5
    clear X2 R2
    go_wp2
    exact ret_cell (b := q0) (v := .agg #[.int .i64 y.k, .int .i64 y.a, .int .i64 y.n, .string y.p, .string y.o, .string y.d]) Try.results31 rfl X3.out.load ⟨⟨y, rfl, HY.out⟩, QS.out, QO.out⟩
  · go_wp2_with fail
    refine (PA.out (A + 1 + 1 + 1 + 1) u4 (by have := HA.out; omega) R0.out.src R0.out.cd).mono ?_
    rintro e u5 ⟨⟨p1, hp1, rfl⟩, hs, ho⟩
    replace R0 : Hid (FcS w u5 b a len cap (A + 1 + 1 + 1 + 1 + 1) q0 z fclZ) := R0.out.draw HSEP.out hs ho
    replace X1 : Hid (FcS w u5 b a len cap (A + 1 + 1 + 1 + 1 + 1) q1 z y0) := X1.out.draw HSEP.out hs ho
    have HP1 : Hid (PthE p1) := hp1
    clear hs ho
    clear hp1
    have X2 : Hid (FcS w (fclSt u5 q1 ⟨6, 0, 0, p1, ⟨#[]⟩, ⟨#[]⟩⟩) b a len cap (A + 1 + 1 + 1 + 1 + 1) q1 z ⟨6, 0, 0, p1, ⟨#[]⟩, ⟨#[]⟩⟩) := X1.out.st HCL.out ⟨6, 0, 0, p1, ⟨#[]⟩, ⟨#[]⟩⟩
    have R2 : Hid (FcS w (fclSt u5 q1 ⟨6, 0, 0, p1, ⟨#[]⟩, ⟨#[]⟩⟩) b a len cap (A + 1 + 1 + 1 + 1 + 1) q0 z fclZ) := ⟨X2.out.src, X2.out.cd, R0.out.box.ofBlock (fclSt_block (Ne.symm HNE.out)), X2.out.only, R0.out.ge, R0.out.ne⟩
    have HY : Hid (FclD ⟨6, 0, 0, p1, ⟨#[]⟩, ⟨#[]⟩⟩) := ⟨⟨by dsimp only; omega, by dsimp only; omega⟩, ⟨by dsimp only; omega, by dsimp only; omega⟩, ⟨by dsimp only; omega, by dsimp only; omega⟩, HP1.out, pthE0, by show (0 : Nat) ≤ 16; omega⟩
    obtain ⟨k0, k1, k2, k3, k4, k5⟩ := X1.out.box.c
    have f0 := X1.out.box.fr 0
    have f1 := X1.out.box.fr 1
    have f2 := X1.out.box.fr 2
    have f3 := X1.out.box.fr 3
    have f4 := X1.out.box.fr 4
    have f5 := X1.out.box.fr 5
    clear X1 R0
    go_upto_region 16 with fail
    clear k0 k1 k2 k3 k4 k5 f0 f1 f2 f3 f4 f5
    change Code.wp _ _ _ _ (fclSt u5 q1 ⟨6, 0, 0, p1, ⟨#[]⟩, ⟨#[]⟩⟩)
    generalize (fclSt u5 q1 ⟨6, 0, 0, p1, ⟨#[]⟩, ⟨#[]⟩⟩) = v2 at X2 R2 ⊢
    generalize (⟨6, 0, 0, p1, ⟨#[]⟩, ⟨#[]⟩⟩ : Fcl) = y at X2 HY
    have X3 : Hid (FclB (fclSt v2 q0 y) q0 y) := R2.out.box.st y
    have QS : Hid (SrcA (fclSt v2 q0 y) b a len cap (A + 10)) := (R2.out.src.ofBlock (fclSt_block (Ne.symm R2.out.ne))).mono (by omega)
    have QO : Hid (OnlyB b w (fclSt v2 q0 y)) := R2.out.only.fclSt R2.out.ge y
    obtain ⟨k0, k1, k2, k3, k4, k5⟩ := X2.out.box.c
    obtain ⟨r0, r1, r2, r3, r4, r5⟩ := R2.out.box.c
    have f0 := R2.out.box.fr 0
    have f1 := R2.out.box.fr 1
    have f2 := R2.out.box.fr 2
    have f3 := R2.out.box.fr 3
    have f4 := R2.out.box.fr 4
    have f5 := R2.out.box.fr 5
    clear X2 R2
    go_wp2
    exact ret_cell (b := q0) (v := .agg #[.int .i64 y.k, .int .i64 y.a, .int .i64 y.n, .string y.p, .string y.o, .string y.d]) Try.results31 rfl X3.out.load ⟨⟨y, rfl, HY.out⟩, QS.out, QO.out⟩
  · go_wp2_with fail
    refine (PL.out (A + 1 + 1 + 1 + 1) u4 (by have := HA.out; omega) R0.out.src R0.out.cd).mono ?_
    rintro e u5 ⟨⟨p1, hp1, rfl⟩, hs, ho⟩
    replace R0 : Hid (FcS w u5 b a len cap (A + 1 + 1 + 1 + 1 + 1) q0 z fclZ) := R0.out.draw HSEP.out hs ho
    replace X1 : Hid (FcS w u5 b a len cap (A + 1 + 1 + 1 + 1 + 1) q1 z y0) := X1.out.draw HSEP.out hs ho
    have HP1 : Hid (PthE p1) := hp1
    clear hs ho
    clear hp1
    have X2 : Hid (FcS w (fclSt u5 q1 ⟨7, 0, 0, p1, ⟨#[]⟩, ⟨#[]⟩⟩) b a len cap (A + 1 + 1 + 1 + 1 + 1) q1 z ⟨7, 0, 0, p1, ⟨#[]⟩, ⟨#[]⟩⟩) := X1.out.st HCL.out ⟨7, 0, 0, p1, ⟨#[]⟩, ⟨#[]⟩⟩
    have R2 : Hid (FcS w (fclSt u5 q1 ⟨7, 0, 0, p1, ⟨#[]⟩, ⟨#[]⟩⟩) b a len cap (A + 1 + 1 + 1 + 1 + 1) q0 z fclZ) := ⟨X2.out.src, X2.out.cd, R0.out.box.ofBlock (fclSt_block (Ne.symm HNE.out)), X2.out.only, R0.out.ge, R0.out.ne⟩
    have HY : Hid (FclD ⟨7, 0, 0, p1, ⟨#[]⟩, ⟨#[]⟩⟩) := ⟨⟨by dsimp only; omega, by dsimp only; omega⟩, ⟨by dsimp only; omega, by dsimp only; omega⟩, ⟨by dsimp only; omega, by dsimp only; omega⟩, HP1.out, pthE0, by show (0 : Nat) ≤ 16; omega⟩
    obtain ⟨k0, k1, k2, k3, k4, k5⟩ := X1.out.box.c
    have f0 := X1.out.box.fr 0
    have f1 := X1.out.box.fr 1
    have f2 := X1.out.box.fr 2
    have f3 := X1.out.box.fr 3
    have f4 := X1.out.box.fr 4
    have f5 := X1.out.box.fr 5
    clear X1 R0
    go_upto_region 16 with fail
    clear k0 k1 k2 k3 k4 k5 f0 f1 f2 f3 f4 f5
    change Code.wp _ _ _ _ (fclSt u5 q1 ⟨7, 0, 0, p1, ⟨#[]⟩, ⟨#[]⟩⟩)
    generalize (fclSt u5 q1 ⟨7, 0, 0, p1, ⟨#[]⟩, ⟨#[]⟩⟩) = v2 at X2 R2 ⊢
    generalize (⟨7, 0, 0, p1, ⟨#[]⟩, ⟨#[]⟩⟩ : Fcl) = y at X2 HY
    have X3 : Hid (FclB (fclSt v2 q0 y) q0 y) := R2.out.box.st y
    have QS : Hid (SrcA (fclSt v2 q0 y) b a len cap (A + 10)) := (R2.out.src.ofBlock (fclSt_block (Ne.symm R2.out.ne))).mono (by omega)
    have QO : Hid (OnlyB b w (fclSt v2 q0 y)) := R2.out.only.fclSt R2.out.ge y
    obtain ⟨k0, k1, k2, k3, k4, k5⟩ := X2.out.box.c
    obtain ⟨r0, r1, r2, r3, r4, r5⟩ := R2.out.box.c
    have f0 := R2.out.box.fr 0
    have f1 := R2.out.box.fr 1
    have f2 := R2.out.box.fr 2
    have f3 := R2.out.box.fr 3
    have f4 := R2.out.box.fr 4
    have f5 := R2.out.box.fr 5
    clear X2 R2
    go_wp2
    exact ret_cell (b := q0) (v := .agg #[.int .i64 y.k, .int .i64 y.a, .int .i64 y.n, .string y.p, .string y.o, .string y.d]) Try.results31 rfl X3.out.load ⟨⟨y, rfl, HY.out⟩, QS.out, QO.out⟩
  · skip
    have X2 : Hid (FcS w u4 b a len cap (A + 1 + 1 + 1 + 1) q1 z y0) := X1.out
    have R2 : Hid (FcS w u4 b a len cap (A + 1 + 1 + 1 + 1) q0 z fclZ) := R0.out
    have HY : Hid (FclD y0) := HX1.out
    clear X1 R0 HX1
    go_upto_region 16 with fail
    obtain ⟨v2, hv2⟩ : ∃ v2, v2 = u4 := ⟨_, rfl⟩
    obtain ⟨y, hy⟩ : ∃ y, y = y0 := ⟨_, rfl⟩
    rw [← hv2] at X2 R2 ⊢
    rw [← hy] at X2 HY
    clear hv2 hy
    have X3 : Hid (FclB (fclSt v2 q0 y) q0 y) := R2.out.box.st y
    have QS : Hid (SrcA (fclSt v2 q0 y) b a len cap (A + 10)) := (R2.out.src.ofBlock (fclSt_block (Ne.symm R2.out.ne))).mono (by omega)
    have QO : Hid (OnlyB b w (fclSt v2 q0 y)) := R2.out.only.fclSt R2.out.ge y
    obtain ⟨k0, k1, k2, k3, k4, k5⟩ := X2.out.box.c
    obtain ⟨r0, r1, r2, r3, r4, r5⟩ := R2.out.box.c
    have f0 := R2.out.box.fr 0
    have f1 := R2.out.box.fr 1
    have f2 := R2.out.box.fr 2
    have f3 := R2.out.box.fr 3
    have f4 := R2.out.box.fr 4
    have f5 := R2.out.box.fr 5
    clear X2 R2
    go_wp2
    exact ret_cell (b := q0) (v := .agg #[.int .i64 y.k, .int .i64 y.a, .int .i64 y.n, .string y.p, .string y.o, .string y.d]) Try.results31 rfl X3.out.load ⟨⟨y, rfl, HY.out⟩, QS.out, QO.out⟩
  · skip
    have X2 : Hid (FcS w u4 b a len cap (A + 1 + 1 + 1 + 1) q1 z y0) := X1.out
    have R2 : Hid (FcS w u4 b a len cap (A + 1 + 1 + 1 + 1) q0 z fclZ) := R0.out
    have HY : Hid (FclD y0) := HX1.out
    clear X1 R0 HX1
    go_upto_region 16 with fail
    obtain ⟨v2, hv2⟩ : ∃ v2, v2 = u4 := ⟨_, rfl⟩
    obtain ⟨y, hy⟩ : ∃ y, y = y0 := ⟨_, rfl⟩
    rw [← hv2] at X2 R2 ⊢
    rw [← hy] at X2 HY
    clear hv2 hy
    have X3 : Hid (FclB (fclSt v2 q0 y) q0 y) := R2.out.box.st y
    have QS : Hid (SrcA (fclSt v2 q0 y) b a len cap (A + 10)) := (R2.out.src.ofBlock (fclSt_block (Ne.symm R2.out.ne))).mono (by omega)
    have QO : Hid (OnlyB b w (fclSt v2 q0 y)) := R2.out.only.fclSt R2.out.ge y
    obtain ⟨k0, k1, k2, k3, k4, k5⟩ := X2.out.box.c
    obtain ⟨r0, r1, r2, r3, r4, r5⟩ := R2.out.box.c
    have f0 := R2.out.box.fr 0
    have f1 := R2.out.box.fr 1
    have f2 := R2.out.box.fr 2
    have f3 := R2.out.box.fr 3
    have f4 := R2.out.box.fr 4
    have f5 := R2.out.box.fr 5
    clear X2 R2
    go_wp2
    exact ret_cell (b := q0) (v := .agg #[.int .i64 y.k, .int .i64 y.a, .int .i64 y.n, .string y.p, .string y.o, .string y.d]) Try.results31 rfl X3.out.load ⟨⟨y, rfl, HY.out⟩, QS.out, QO.out⟩
set_option maxRecDepth 100000 in
theorem fileCallOf_ex (a : Option Addr) (len cap : Nat) (z : Nat → Nat) (hz : ∀ i, z i < 256) (hl : len ≤ maxLen) (w : World) (hc : Code8 w a len z) :
    Calls Try.prog 7 #[.slice a len cap] w fun e w' => (∃ x : Fcl, e = .returned (.agg #[.int .i64 x.k, .int .i64 x.a, .int .i64 x.n, .string x.p, .string x.o, .string x.d]) ∧ FclD x) ∧ Below w.heap.size w w' := by
  have W1 : Below w.heap.size w (w.alloc (.cells #[.int .i64 0, .int .i64 0, .int .i64 0, .string ⟨#[]⟩, .string ⟨#[]⟩, .string ⟨#[]⟩] 26)) := (Below.refl _ _).alloc (Nat.le_refl _) _
  have B1 : Hid (Below w.heap.size w (w.alloc (.cells #[.int .i64 0, .int .i64 0, .int .i64 0, .string ⟨#[]⟩, .string ⟨#[]⟩, .string ⟨#[]⟩] 26))) := W1
  have HC : Hid (Code8 (w.alloc (.cells #[.int .i64 0, .int .i64 0, .int .i64 0, .string ⟨#[]⟩, .string ⟨#[]⟩, .string ⟨#[]⟩] 26)) a len z) := hc.below W1
  have R0 : Hid (FclB (w.alloc (.cells #[.int .i64 0, .int .i64 0, .int .i64 0, .string ⟨#[]⟩, .string ⟨#[]⟩, .string ⟨#[]⟩] 26)) w.heap.size fclZ) := FclB.madeOf (x := fclZ) rfl
  have HLT : Hid (∀ x, 0 < len → a = some x → x.block < w.heap.size) := fun x h0 hx => hc.lt x h0 hx
  clear hc W1
  go_enter Try.func7, Try.ntmps7
  go_wp2_with fail
  generalize (w.alloc (.cells #[.int .i64 0, .int .i64 0, .int .i64 0, .string ⟨#[]⟩, .string ⟨#[]⟩, .string ⟨#[]⟩] 26)) = v0 at *
  obtain ⟨q0, hq0⟩ : ∃ x, x = w.heap.size := ⟨_, rfl⟩
  rw [← hq0] at R0 ⊢
  have HQ : Hid (w.heap.size ≤ q0) := Nat.le_of_eq hq0.symm
  clear hq0
  refine (source_any a len cap hl v0).mono ?_
  rintro e w1 ⟨rfl, hs, hb⟩
  have FC : Hid (Calls Try.prog 31 #[.pointer (some ⟨v0.heap.size, 0, none⟩)] w1 fun e w' => (∃ x : Fcl, e = .returned (.agg #[.int .i64 x.k, .int .i64 x.a, .int .i64 x.n, .string x.p, .string x.o, .string x.d]) ∧ FclD x) ∧ SrcA w' v0.heap.size a len cap (0 + 10) ∧ OnlyB v0.heap.size w1 w') := fileCall_ex v0.heap.size a len cap 0 z hz (by omega) hl (fun x h0 hx => by have := HLT.out x h0 hx; have := B1.out.size; omega) w1 ⟨0, len % 1000, by omega, by omega, hs⟩ (HC.out.below hb)
  have HB : Hid (Below v0.heap.size v0 w1) := hb
  have HNE : Hid (q0 ≠ v0.heap.size) := Nat.ne_of_lt R0.out.lt
  replace R0 : Hid (FclB w1 q0 fclZ) := R0.out.below hb
  clear hs hb hz hl
  go_wp2_with fail
  refine FC.out.mono ?_
  rintro e w2 ⟨⟨y, rfl, hy⟩, _, ho⟩
  have HY : Hid (FclD y) := hy
  have R2 : Hid (FclB w2 q0 fclZ) := R0.out.onlyB ho HNE.out
  have HB2 : Below v0.heap.size v0 w2 := HB.out.trans (ho.toBelow (Nat.le_refl _) HB.out.size)
  have X3 : Hid (FclB (fclSt w2 q0 y) q0 y) := R2.out.st y
  have B3 : Hid (Below w.heap.size w (fclSt w2 q0 y)) := fclSt_below (B1.out.trans (HB2.mono B1.out.size)) HQ.out y
  obtain ⟨r0, r1, r2, r3, r4, r5⟩ := R2.out.c
  have f0 := R2.out.fr 0
  have f1 := R2.out.fr 1
  have f2 := R2.out.fr 2
  have f3 := R2.out.fr 3
  have f4 := R2.out.fr 4
  have f5 := R2.out.fr 5
  clear R2 R0 hy ho HB2 FC HB HNE HC B1 HLT
  go_wp2
  exact ret_cell (b := q0) (v := .agg #[.int .i64 y.k, .int .i64 y.a, .int .i64 y.n, .string y.p, .string y.o, .string y.d]) Try.results7 rfl X3.out.load ⟨⟨y, rfl, HY.out⟩, B3.out⟩
end Go.Proofs.Ytbdoablokoghbaa

/-
  The mathematics of FnMoves: what is moved back, where nothing stood, is as it was.
-/
namespace Go.Proofs.Ytbdoablokoghbaa
open Go.ChangeShapes Go.WideShapes Go.ChangeAt Go.RowKit
set_option linter.unusedVariables false
theorem pigeonM : ∀ (n m : Nat) (f : Nat → Nat), (∀ i, i < m → f i < n) → (∀ i j, i < m → j < m → f i = f j → i = j) → m ≤ n
  | 0, m, f, h, _ => by
    rcases Nat.eq_zero_or_pos m with q | q
    · omega
    · exact absurd (h 0 q) (by omega)
  | n + 1, 0, f, h, hi => by omega
  | n + 1, m + 1, f, h, hi => by
    have := pigeonM n m (fun i => if f i = n then f m else f i) (fun i hm => by
      have h1 := h i (by omega)
      have h2 := h m (by omega)
      by_cases e : f i = n
      · rw [if_pos e]
        have : f m ≠ n := fun q => by
          have := hi i m (by omega) (by omega) (e.trans q.symm)
          omega
        omega
      · rw [if_neg e]; omega) (fun i j h1 h2 e => by
      by_cases e1 : f i = n <;> by_cases e2 : f j = n
      · exact hi i j (by omega) (by omega) (e1.trans e2.symm)
      · rw [if_pos e1, if_neg e2] at e
        have := hi m j (by omega) (by omega) e
        omega
      · rw [if_neg e1, if_pos e2] at e
        have := hi i m (by omega) (by omega) e
        omega
      · rw [if_neg e1, if_neg e2] at e
        exact hi i j (by omega) (by omega) e)
    omega
theorem mvd_size {fr p : ByteArray} (h : Mvd fr p) : fr.size ≤ p.size := by
  rcases h with rfl | h
  · exact Nat.le_refl _
  · have := h.1; rw [size_slM] at this; omega
/-- Right files of which none stands at tp: none stands below it. -/
theorem none_under {n : Nat} {F : Nat → Fi} (h : FsOk n F) {tp : ByteArray} (ht : 0 < tp.size) (hn : ∀ j, j < n → (F j).p = tp → (F j).d = false) {i : Nat} (hi : i < n) : ¬ HasPre (F i).p (tp ++ ⟨#[47]⟩) := fun q => by
  obtain ⟨j, hj, e, d⟩ := under_dir h ht _ i hi (Nat.le_refl _) q
  rw [hn j hj e] at d
  cases d
/-- What was moved is moved back. -/
theorem mv_back {fr tp p : ByteArray} (h : Mvd fr p) : Mvd tp (mvT fr tp p) ∧ mvT tp fr (mvT fr tp p) = p := by
  have h1 : Mvd tp (mvT fr tp p) := mvT_under h
  refine ⟨h1, ?_⟩
  rw [mvT_yes h1]
  have h2 := mvd_join h1
  have h3 := mvT_yes (tp := tp) h
  have h4 : (mvT fr tp p).extract tp.size (mvT fr tp p).size = p.extract fr.size p.size := by
    refine app_cancel (a := tp) ?_
    rw [← h2, h3]
  rw [h4, ← mvd_join h]
theorem mv_stay {fr tp p : ByteArray} (h : ¬ Mvd fr p) (h' : ¬ Mvd tp p) : mvT tp fr (mvT fr tp p) = p := by
  rw [mvT_no h, mvT_no h']
/-- The facts of a move that went through. -/
structure MvYes (n : Nat) (F : Nat → Fi) (fr tp : ByteArray) (k m : Nat) (G : Nat → Fi) : Prop where
  ok : FsOk n F
  pf : PathOk fr
  pt : PathOk tp
  hk : k < n
  ek : (F k).p = fr
  ne : fr ≠ tp
  ab : ¬ HasPre tp (fr ++ ⟨#[47]⟩)
  dir : DirIs n F (par tp) 0
  two : ¬ ∃ j, j < n ∧ (F j).p = tp ∧ ((F j).d = true ∨ (F k).d = true)
  len : ¬ ∃ i, i < n ∧ HasPre (F i).p (fr ++ ⟨#[47]⟩) ∧ 40 < tp.size + ((F i).p.size - fr.size)
  arr : ArrM n F fr tp m G
theorem MvIs.yes {n : Nat} {F : Nat → Fi} {fr tp : ByteArray} {m : Nat} {G : Nat → Fi} (h : MvIs n F fr tp m G 0) (hne : fr ≠ tp) : ∃ k, MvYes n F fr tp k m G := by
  rcases h with ⟨_, e, _⟩ | ⟨a, ⟨_, e, _⟩ | ⟨k, hk, ek, ⟨e, _⟩ | ⟨_, ⟨_, e, _⟩ | ⟨u, ⟨_, e, _⟩ | ⟨d, ⟨_, e, _⟩ | ⟨t, ⟨_, e, _⟩ | ⟨l, _, r⟩⟩⟩⟩⟩⟩⟩
  · exact absurd rfl e
  · omega
  · exact absurd e hne
  · omega
  · exact absurd rfl e
  · omega
  · omega
  · obtain ⟨h1, h2, _⟩ := a.ok
    exact ⟨k, h1, by simpa using h2 0 (by omega), by simpa using h2 1 (by omega), hk, ek, hne, u, d, t, l, r⟩
theorem Home.dir {n : Nat} {F : Nat → Fi} {q : ByteArray} (h : Home n F q) : DirIs n F q 0 := by
  rcases h with e | ⟨j, hj, ej, d⟩
  · exact .inl ⟨e, rfl⟩
  · rcases Nat.eq_zero_or_pos q.size with e | e
    · exact .inl ⟨e, rfl⟩
    · exact .inr (.inr ⟨e, j, hj, ej, .inr ⟨d, rfl⟩⟩)
theorem MvYes.keeps {n : Nat} {F : Nat → Fi} {fr tp : ByteArray} {k m : Nat} {G : Nat → Fi} (h : MvYes n F fr tp k m G) : FsOk m G := h.arr.keeps h.ok h.pf h.pt h.hk h.ek h.ab (h.dir.home rfl) h.two h.len
theorem MvYes.above {n : Nat} {F : Nat → Fi} {fr tp : ByteArray} {k m : Nat} {G : Nat → Fi} (h : MvYes n F fr tp k m G) : ¬ HasPre fr (tp ++ ⟨#[47]⟩) := fun q => by
  obtain ⟨j, hj, e, d⟩ := under_dir h.ok (pathOk_pos h.pt) _ k h.hk (Nat.le_refl _) (by rw [h.ek]; exact q)
  exact h.two ⟨j, hj, e, .inl d⟩
/-- Nothing stands any more where it was. -/
theorem MvYes.gone {n : Nat} {F : Nat → Fi} {fr tp : ByteArray} {k m : Nat} {G : Nat → Fi} (h : MvYes n F fr tp k m G) {i : Nat} (hi : i < m) : (G i).p ≠ fr := fun e => by
  obtain ⟨j, hj, _, hG⟩ := h.arr.src i hi
  rw [hG] at e
  have e' : mvT fr tp (F j).p = fr := e
  by_cases hm : Mvd fr (F j).p
  · rcases mvT_under (tp := tp) hm with q | q
    · exact h.ne (e'.symm.trans q)
    · rw [e'] at q; exact h.above q
  · rw [mvT_no hm] at e'
    exact hm (.inl e')
theorem MvYes.back {n : Nat} {F : Nat → Fi} {fr tp : ByteArray} {k m : Nat} {G : Nat → Fi} (h : MvYes n F fr tp k m G) (hs : ∀ j, j < n → (F j).p ≠ tp) : m = n ∧ MvIs m G tp fr n F 0 := by
  have hG := h.keeps
  have t0 := pathOk_pos h.pt
  have hnot : ∀ j, j < n → ¬ Mvd tp (F j).p := fun j hj q => q.elim (hs j hj) (none_under h.ok t0 (fun i hi e => absurd e (hs i hi)) hj)
  have bk : ∀ j, j < n → mvF tp fr (mvF fr tp (F j)) = F j := fun j hj => by
    have e : mvT tp fr (mvT fr tp (F j).p) = (F j).p := by
      by_cases hm : Mvd fr (F j).p
      · exact (mv_back hm).2
      · exact mv_stay hm (hnot j hj)
    show (⟨mvT tp fr (mvT fr tp (F j).p), (F j).d, (F j).t⟩ : Fi) = F j
    rw [e]
  have hnm : n ≤ m := by
    have hc : ∀ j, ∃ i, j < n → i < m ∧ G i = mvF fr tp (F j) := fun j => by
      by_cases hj : j < n
      · obtain ⟨i, hi, e⟩ := h.arr.all j hj (hs j hj)
        exact ⟨i, fun _ => ⟨hi, e⟩⟩
      · exact ⟨0, fun q => absurd q hj⟩
    refine pigeonM m n (fun j => (hc j).choose) (fun j hj => ((hc j).choose_spec hj).1) (fun i j hi hj e => ?_)
    have e1 := ((hc i).choose_spec hi).2
    have e2 := ((hc j).choose_spec hj).2
    have e3 : mvF fr tp (F i) = mvF fr tp (F j) := by rw [← e1, ← e2]; exact congrArg G e
    exact mv_apart h.ok t0 (fun j hj e => absurd e (hs j hj)) hi hj (hs i hi) (hs j hj) (congrArg Fi.p e3)
  have hmn : m = n := Nat.le_antisymm h.arr.le hnm
  refine ⟨hmn, .inr ⟨?_, .inr ?_⟩⟩
  · have := hG.1
    refine .inr ⟨?_, .inr ⟨hG, .inr ⟨fun i hi => ?_, rfl⟩⟩⟩
    · rintro (q | ⟨i, hi, q⟩)
      · omega
      · have hf := h.pf.1
        have ht := h.pt.1
        dsimp only at q
        split at q <;> omega
    · dsimp only
      split
      · exact h.pt
      · exact h.pf
  · obtain ⟨k', hk', ek'⟩ := h.arr.all k h.hk (hs k h.hk)
    refine ⟨k', hk', ?_, .inr ⟨fun e => h.ne e.symm, .inr ⟨h.above, .inr ⟨?_, .inr ⟨?_, .inr ⟨?_, rfl, ?_⟩⟩⟩⟩⟩⟩
    · rw [ek']
      show mvT fr tp (F k).p = tp
      rw [h.ek]
      exact mvT_selfK fr tp
    · refine Home.dir ?_
      have hh := (h.ok.2 k h.hk).2.2
      rw [h.ek] at hh
      rcases hh with q | ⟨j, hj, ej, dj⟩
      · exact .inl q
      · obtain ⟨i, hi, e⟩ := h.arr.all j hj (hs j hj)
        refine .inr ⟨i, hi, ?_, by rw [e]; exact dj⟩
        rw [e]
        show mvT fr tp (F j).p = par fr
        rw [ej]
        refine mvT_no (fun q => ?_)
        rcases q with q | q
        · exact par_lt h.pf q
        · have h1 := q.1
          rw [size_slM] at h1
          have h2 : (par fr).size ≤ fr.size := by unfold par; rw [ByteArray.size_extract]; omega
          omega
    · rintro ⟨j, hj, e, _⟩
      exact h.gone hj e
    · rintro ⟨i, hi, q, l⟩
      obtain ⟨j, hj, _, e⟩ := h.arr.src i hi
      rw [e] at q l
      have q' : HasPre (mvT fr tp (F j).p) (tp ++ ⟨#[47]⟩) := q
      have l' : 40 < fr.size + ((mvT fr tp (F j).p).size - tp.size) := l
      by_cases hm : Mvd fr (F j).p
      · have h1 := (h.ok.2 j hj).1.1.1
        rw [mvT_yes hm, ByteArray.size_append, ByteArray.size_extract] at l'
        have := mvd_size hm
        omega
      · rw [mvT_no hm] at q'
        exact hnot j hj (.inr q')
    · refine ⟨hnm, fun i hi => ?_, fun j hj hne => ?_, h.ok.srt.up⟩
      · obtain ⟨j, hj, e⟩ := h.arr.all i hi (hs i hi)
        exact ⟨j, hj, h.gone hj, by rw [e, bk i hi]⟩
      · obtain ⟨i, hi, _, e⟩ := h.arr.src j hj
        exact ⟨i, hi, by rw [e, bk i hi]⟩
end Go.Proofs.Ytbdoablokoghbaa

/-
  ListDir of the model.
-/
namespace Go.Proofs.Ytbdoablokoghbaa
open Go.ChangeShapes Go.WideShapes Go.ChangeAt Go.RowKit
set_option linter.unusedVariables false
/-- The name of a file in a directory. -/
def chT (x : Fi) (p : ByteArray) : ByteArray := if x.d then x.p.extract (aheadT p).size x.p.size ++ ⟨#[47]⟩ else x.p.extract (aheadT p).size x.p.size
/-- The names in a directory. -/
noncomputable def lsL (F : Nat → Fi) (p : ByteArray) : Nat → List ByteArray
  | 0 => []
  | k + 1 => open Classical in if par (F k).p = p then lsL F p k ++ [chT (F k) p] else lsL F p k
theorem lsL_yes {F : Nat → Fi} {p : ByteArray} {k : Nat} (h : par (F k).p = p) : lsL F p (k + 1) = lsL F p k ++ [chT (F k) p] := by
  show (open Classical in if par (F k).p = p then lsL F p k ++ [chT (F k) p] else lsL F p k) = _
  rw [if_pos h]
theorem lsL_no {F : Nat → Fi} {p : ByteArray} {k : Nat} (h : ¬ par (F k).p = p) : lsL F p (k + 1) = lsL F p k := by
  show (open Classical in if par (F k).p = p then lsL F p k ++ [chT (F k) p] else lsL F p k) = _
  rw [if_neg h]
theorem lsL_le (F : Nat → Fi) (p : ByteArray) : ∀ k, (lsL F p k).length ≤ k
  | 0 => Nat.le_refl _
  | k + 1 => by
    have := lsL_le F p k
    by_cases h : par (F k).p = p
    · rw [lsL_yes h, List.length_append]; simp; omega
    · rw [lsL_no h]; omega
theorem EO.pxCongr {w : World} {B : Nat} {v : Value} {n : Nat} {f g : Nat → ByteArray} (h : EO w B 9 1 v n (pxF f)) (e : ∀ i, i < n → f i = g i) : EO w B 9 1 v n (pxF g) := h.congr (fun i hi j hj => by unfold pxF; rw [e i hi])
/-- One more name. -/
theorem appName {v1 wr : World} {a : Option Addr} {q c : Nat} {L : List ByteArray} (x : ByteArray) (hq : q = L.length) (hl : q ≤ 1000) (h : EO wr v1.heap.size 9 1 (.slice a q c) q (pxF (nthT L))) (hb : Below v1.heap.size v1 wr) :
    ∃ a' c' w', (∀ ty, (Builtin.append_ #[41, 41] ty #[.slice a q c, .slice (some ⟨wr.heap.size, 0, none⟩) 1 1]).run Try.prog (wr.alloc (.cells #[.string x] 9)) = .ok (.slice a' (q + 1) c') w') ∧ EO w' v1.heap.size 9 1 (.slice a' (q + 1) c') (q + 1) (pxF (nthT (L ++ [x]))) ∧ Below v1.heap.size v1 w' := by
  have hsz := hb.size
  have WB : Below wr.heap.size wr (wr.alloc (.cells #[.string x] 9)) := (Below.refl _ _).alloc (Nat.le_refl _) _
  obtain ⟨v', w', hr, ho, hg, hloc⟩ := appPx (wr.alloc (.cells #[.string x] 9)) v1.heap.size _ q wr.heap.size (nthT L) x (by simp; omega) (by omega) (h.below WB) (fun j hj => by
    obtain rfl : j = 0 := by omega
    simp [pxV])
  obtain ⟨a', c', rfl⟩ := ho.form
  refine ⟨a', c', w', hr, ho.pxCongr (fun i hi => ?_), ?_⟩
  · subst hq; exact nthT_snoc L x i hi
  · exact (hb.trans (WB.mono (by omega))).grown hg (by simp; omega) (fun g e => (h.ge g e).1)
/-- What ListDir does. -/
def LsIs (n : Nat) (F : Nat → Fi) (p : ByteArray) (L : List ByteArray) (c : Int) : Prop :=
  (p.size = 0 ∧ ((FtIs n F 0 (fun _ => p) c ∧ c ≠ 0 ∧ L = []) ∨ (FtIs n F 0 (fun _ => p) 0 ∧ c = 0 ∧ L = lsL F p n))) ∨ (0 < p.size ∧ ((FtIs n F 1 (fun _ => p) c ∧ c ≠ 0 ∧ L = []) ∨ (FtIs n F 1 (fun _ => p) 0 ∧ ((DirIs n F p c ∧ c ≠ 0 ∧ L = []) ∨ (DirIs n F p 0 ∧ c = 0 ∧ L = lsL F p n)))))
theorem LsIs.uniq {n : Nat} {F : Nat → Fi} {p : ByteArray} {L L' : List ByteArray} {c c' : Int} (h : LsIs n F p L c) (h' : LsIs n F p L' c') : L = L' ∧ c = c' := by
  rcases h with ⟨z, ⟨a, b, rfl⟩ | ⟨a, rfl, rfl⟩⟩ | ⟨z, ⟨a, b, rfl⟩ | ⟨a, q⟩⟩ <;> rcases h' with ⟨z', ⟨a', b', rfl⟩ | ⟨a', rfl, rfl⟩⟩ | ⟨z', ⟨a', b', rfl⟩ | ⟨a', q'⟩⟩ <;> try omega
  · exact ⟨rfl, a.uniq a'⟩
  · exact absurd (a.uniq a') b
  · exact absurd (a'.uniq a) b'
  · exact ⟨rfl, rfl⟩
  · exact ⟨rfl, a.uniq a'⟩
  · exact absurd (a.uniq a') b
  · exact absurd (a'.uniq a) b'
  · have hs := a.ok.1.srt
    rcases q with ⟨d, b, rfl⟩ | ⟨d, rfl, rfl⟩ <;> rcases q' with ⟨d', b', rfl⟩ | ⟨d', rfl, rfl⟩
    · exact ⟨rfl, d.uniq hs d'⟩
    · exact absurd (d.uniq hs d') b
    · exact absurd (d'.uniq hs d) b'
    · exact ⟨rfl, rfl⟩
/-- Names handed back. -/
def RetNm (L : List ByteArray) (cd : Int) (B : Nat) (e : Ending) (w : World) : Prop := ∃ a c, e = .returned (.tuple #[.slice a L.length c, .int .i64 cd]) ∧ EO w B 9 1 (.slice a L.length c) L.length (pxF (nthT L))
theorem retNm_lit (w : World) (cd : Int) (B : Nat) (hB : B ≤ w.heap.size) : RetNm [] cd B (.returned (.tuple #[.slice (some ⟨w.heap.size, 0, none⟩) 0 0, .int .i64 cd])) (w.alloc (.cells #[] 9)) := ⟨_, _, rfl, EO.lit w B _ 1 hB _⟩
end Go.Proofs.Ytbdoablokoghbaa

/-
  The mathematics of FnDirs and FnFiles: what is put at a path.
-/
namespace Go.Proofs.Ytbdoablokoghbaa
open Go.ChangeShapes Go.WideShapes Go.ChangeAt Go.RowKit
set_option linter.unusedVariables false
theorem PutIs.src {n : Nat} {F : Nat → Fi} {f : Fi} {m : Nat} {G : Nat → Fi} (hs : Srt n F) (h : PutIs n F f m G) (i : Nat) (hi : i < m) : G i = f ∨ ∃ j, j < n ∧ G i = F j ∧ (F j).p ≠ f.p := by
  rcases h with ⟨k, hk, e, rfl, hG⟩ | ⟨hno, rfl, k, hP, hG⟩
  · rw [hG i hi]
    by_cases q : i = k
    · subst q; exact .inl (updE_eq _ _ _)
    · refine .inr ⟨i, hi, updE_ne _ _ q, fun e2 => q (hs.uniq hi hk (e2.trans e.symm))⟩
  · rw [hG i hi]
    have hk : k ≤ n := hP.1
    rcases Nat.lt_trichotomy i k with q | q | q
    · exact .inr ⟨i, by omega, insE_lt _ _ q, hno i (by omega)⟩
    · subst q; exact .inl (insE_eq _ _ _)
    · exact .inr ⟨i - 1, by omega, insE_gt _ _ q, hno (i - 1) (by omega)⟩
theorem PutIs.has {n : Nat} {F : Nat → Fi} {f : Fi} {m : Nat} {G : Nat → Fi} (h : PutIs n F f m G) : ∃ i, i < m ∧ G i = f := by
  rcases h with ⟨k, hk, e, rfl, hG⟩ | ⟨hno, rfl, k, hP, hG⟩
  · exact ⟨k, hk, by rw [hG k hk]; exact updE_eq _ _ _⟩
  · have hk : k ≤ n := hP.1
    exact ⟨k, by omega, by rw [hG k (by omega)]; exact insE_eq _ _ _⟩
theorem PutIs.all {n : Nat} {F : Nat → Fi} {f : Fi} {m : Nat} {G : Nat → Fi} (h : PutIs n F f m G) (j : Nat) (hj : j < n) (hne : (F j).p ≠ f.p) : ∃ i, i < m ∧ G i = F j := by
  rcases h with ⟨k, hk, e, rfl, hG⟩ | ⟨hno, rfl, k, hP, hG⟩
  · refine ⟨j, hj, ?_⟩
    rw [hG j hj]
    exact updE_ne _ _ (fun q => hne (by rw [q]; exact e))
  · rcases Nat.lt_or_ge j k with q | q
    · exact ⟨j, by omega, by rw [hG j (by omega)]; exact insE_lt _ _ q⟩
    · exact ⟨j + 1, by omega, by rw [hG _ (by omega), insE_gt _ _ (by omega)]; rfl⟩
theorem ftIs_ok {n : Nat} {F : Nat → Fi} {p : ByteArray} (h : FsOk n F) (hp : PathOk p) : FtIs n F 1 (fun _ => p) 0 := by
  have h1 := h.1
  have h2 := hp.1
  refine .inr ⟨?_, .inr ⟨h, .inr ⟨fun _ _ => hp, rfl⟩⟩⟩
  rintro (q | ⟨i, _, q⟩)
  · omega
  · dsimp only at q; omega
theorem ftIs_top {n : Nat} {F : Nat → Fi} {p : ByteArray} (h : FsOk n F) : FtIs n F 0 (fun _ => p) 0 := by
  have h1 := h.1
  refine .inr ⟨?_, .inr ⟨h, .inr ⟨fun i hi => absurd hi (by omega), rfl⟩⟩⟩
  rintro (q | ⟨i, hi, q⟩)
  · omega
  · omega
theorem lsL_len (F : Nat → Fi) (p : ByteArray) : ∀ n, (lsL F p n).length ≤ n
  | 0 => Nat.le_refl _
  | n + 1 => by
    have := lsL_len F p n
    by_cases g : par (F n).p = p
    · rw [lsL_yes g, List.length_append]; simp; omega
    · rw [lsL_no g]; omega
theorem lsL_none {F : Nat → Fi} {p : ByteArray} : ∀ {n : Nat}, (∀ i, i < n → par (F i).p ≠ p) → lsL F p n = []
  | 0, _ => rfl
  | n + 1, h => by rw [lsL_no (h n (by omega))]; exact lsL_none (fun i hi => h i (by omega))
theorem lsL_mem {F : Nat → Fi} {p : ByteArray} : ∀ {n : Nat} (i : Nat), i < n → par (F i).p = p → chT (F i) p ∈ lsL F p n
  | 0, i, hi, _ => absurd hi (by omega)
  | n + 1, i, hi, e => by
    by_cases q : i = n
    · subst q; rw [lsL_yes e]; simp
    · have := lsL_mem i (by omega : i < n) e
      by_cases g : par (F n).p = p
      · rw [lsL_yes g]; exact List.mem_append_left _ this
      · rw [lsL_no g]; exact this
/-- A directory that was made. -/
structure MkYes (n : Nat) (F : Nat → Fi) (p : ByteArray) (m : Nat) (G : Nat → Fi) : Prop where
  ok : FsOk n F
  pp : PathOk p
  no : ∀ j, j < n → (F j).p ≠ p
  new : NewIs n F p 0
  put : PutIs n F ⟨p, true, ⟨#[]⟩⟩ m G
  gk : FsOk m G
theorem MkIs.yes {n : Nat} {F : Nat → Fi} {p : ByteArray} {m : Nat} {G : Nat → Fi} (h : MkIs n F p m G 0) : MkYes n F p m G := by
  rcases h with ⟨_, e, _⟩ | ⟨a, q⟩
  · exact absurd rfl e
  · obtain ⟨h1, h2, _⟩ := a.ok
    have hp : PathOk p := h2 0 (by omega)
    have hk := MkP.keeps h1 hp (show MkP n F p m G 0 from q)
    rcases q with ⟨_, e, _⟩ | ⟨hno, ⟨_, e, _⟩ | ⟨e1, _, e2⟩⟩
    · omega
    · exact absurd rfl e
    · exact ⟨h1, hp, fun j hj e => hno ⟨j, hj, e⟩, e1, e2, hk⟩
theorem MkYes.no_child {n : Nat} {F : Nat → Fi} {p : ByteArray} {m : Nat} {G : Nat → Fi} (h : MkYes n F p m G) (i : Nat) (hi : i < m) : par (G i).p ≠ p := fun e => by
  have p0 := pathOk_pos h.pp
  rcases h.put.src h.ok.srt i hi with q | ⟨j, hj, q, _⟩
  · rw [q] at e; exact par_lt h.pp e
  · rw [q] at e
    rcases (h.ok.2 j hj).2.2 with z | ⟨k, hk, ek, _⟩
    · rw [e] at z; omega
    · exact h.no k hk (by rw [ek, e])
theorem MkYes.no_under {n : Nat} {F : Nat → Fi} {p : ByteArray} {m : Nat} {G : Nat → Fi} (h : MkYes n F p m G) : ¬ Under m G p := fun ⟨i, hi, q⟩ => by
  have p0 := pathOk_pos h.pp
  rcases h.put.src h.ok.srt i hi with e | ⟨j, hj, e, _⟩
  · rw [e] at q
    have := q.1
    rw [size_slM] at this
    dsimp only at this
    omega
  · rw [e] at q
    obtain ⟨k, hk, ek, _⟩ := under_dir h.ok p0 _ j hj (Nat.le_refl _) q
    exact h.no k hk ek
theorem MkYes.dir {n : Nat} {F : Nat → Fi} {p : ByteArray} {m : Nat} {G : Nat → Fi} (h : MkYes n F p m G) : DirIs m G p 0 := by
  obtain ⟨i, hi, e⟩ := h.put.has
  exact .inr (.inr ⟨pathOk_pos h.pp, i, hi, by rw [e], .inr ⟨by rw [e], rfl⟩⟩)
theorem MkYes.inner {n : Nat} {F : Nat → Fi} {p : ByteArray} {m : Nat} {G : Nat → Fi} (h : MkYes n F p m G) : LsIs m G p [] 0 :=
  .inr ⟨pathOk_pos h.pp, .inr ⟨ftIs_ok h.gk h.pp, .inr ⟨h.dir, rfl, (lsL_none h.no_child).symm⟩⟩⟩
theorem MkYes.home {n : Nat} {F : Nat → Fi} {p : ByteArray} {m : Nat} {G : Nat → Fi} (h : MkYes n F p m G) : DirIs m G (par p) 0 := by
  refine Home.dir ?_
  rcases h.new.home.2 with z | ⟨j, hj, ej, dj⟩
  · exact .inl z
  · obtain ⟨i, hi, e⟩ := h.put.all j hj (h.no j hj)
    exact .inr ⟨i, hi, by rw [e]; exact ej, by rw [e]; exact dj⟩
theorem MkYes.outer {n : Nat} {F : Nat → Fi} {p : ByteArray} {m : Nat} {G : Nat → Fi} (h : MkYes n F p m G) : LsIs m G (par p) (lsL G (par p) m) 0 := by
  by_cases z : (par p).size = 0
  · exact .inl ⟨z, .inr ⟨ftIs_top h.gk, rfl, rfl⟩⟩
  · have hp : PathOk (par p) := by
      rcases h.home with ⟨e, _⟩ | ⟨_, _, e⟩ | ⟨_, j, hj, ej, _⟩
      · exact absurd e z
      · omega
      · rw [← ej]; exact h.gk.srt.ok j hj
    exact .inr ⟨by omega, .inr ⟨ftIs_ok h.gk hp, .inr ⟨h.home, rfl, rfl⟩⟩⟩
theorem MkYes.listed {n : Nat} {F : Nat → Fi} {p : ByteArray} {m : Nat} {G : Nat → Fi} (h : MkYes n F p m G) : p.extract (aheadT (par p)).size p.size ++ ⟨#[47]⟩ ∈ lsL G (par p) m := by
  obtain ⟨i, hi, e⟩ := h.put.has
  have := lsL_mem (F := G) (p := par p) i hi (by rw [e])
  rw [e] at this
  exact this
/-- It goes again, and all is as it was. -/
theorem MkYes.goes {n : Nat} {F : Nat → Fi} {p : ByteArray} {m : Nat} {G : Nat → Fi} (h : MkYes n F p m G) : RmIs m G p n F 0 := by
  rcases h.put with ⟨k, hk, e, _⟩ | ⟨_, rfl, k, hP, hG⟩
  · exact absurd e (h.no k hk)
  · have hk : k ≤ n := hP.1
    have ek : G k = ⟨p, true, ⟨#[]⟩⟩ := by rw [hG k (by omega)]; exact insE_eq _ _ _
    refine .inr ⟨ftIs_ok h.gk h.pp, .inr ⟨k, by omega, by rw [ek], .inr ⟨h.no_under, rfl, rfl, fun i hi => ?_⟩⟩⟩
    unfold delU
    by_cases q : i < k
    · rw [if_pos q, hG i (by omega), insE_lt _ _ q]
    · rw [if_neg q, if_pos (by omega), hG (i + 1) (by omega), insE_gt _ _ (by omega)]
      rfl
/-- The path of a file in it. -/
def inT (p : ByteArray) : ByteArray := p ++ ⟨#[47, 105, 110]⟩
theorem inT_eq (p : ByteArray) : inT p = p ++ ⟨#[47]⟩ ++ ⟨#[105, 110]⟩ := by
  refine toL_inj ?_
  unfold inT
  rw [toL_app, toL_app, toL_app]
  simp
theorem inT_size (p : ByteArray) : (inT p).size = p.size + 3 := by unfold inT; rw [ByteArray.size_append]; rfl
theorem inT_ok {p : ByteArray} (h : PathOk p) (hl : p.size ≤ 37) : PathOk (inT p) := by
  have := inT_size p
  rw [inT_eq] at this ⊢
  exact join_path h (nm_path (by refine ⟨by decide, by decide, by decide, ?_⟩; decide)) (by omega)
theorem inT_under (p : ByteArray) : HasPre (inT p) (p ++ ⟨#[47]⟩) := by rw [inT_eq]; exact hasPre_ex.2 ⟨_, rfl⟩
theorem inT_par {p : ByteArray} (h : PathOk p) (hl : p.size ≤ 37) : par (inT p) = p := by
  have p0 := pathOk_pos h
  refine (par_iff (inT_ok h hl)).2 ?_
  unfold aheadT
  rw [if_neg (by omega)]
  refine ⟨inT_under p, fun k h1 h2 => ?_⟩
  rw [size_slM] at h1
  rw [inT_size] at h2
  obtain ⟨j, rfl⟩ : ∃ j, k = (p ++ (⟨#[47]⟩ : ByteArray)).size + j := ⟨k - (p.size + 1), by rw [size_slM]; omega⟩
  rw [inT_eq, byteAt_appR]
  rw [size_slM] at h2
  have : j = 0 ∨ j = 1 := by omega
  rcases this with rfl | rfl <;> decide
/-- A file written into it: there is no room, or it stands there. -/
theorem MkYes.full {n : Nat} {F : Nat → Fi} {p : ByteArray} {m : Nat} {G : Nat → Fi} (h : MkYes n F p m G) (hl : p.size ≤ 37) {s : ByteArray} (hs : s.size ≤ 100) {m' : Nat} {G' : Nat → Fi} {c : Int} (hw : WrIs m G (inT p) 0 s m' G' c) : FsOk m' G' ∧ (c = 7 ∨ (c = 0 ∧ Under m' G' p ∧ ∃ j, j < m' ∧ (G' j).p = p)) := by
  have hin := inT_ok h.pp hl
  have hft := ftIs_ok h.gk hin
  have hno : ∀ j, j < m → (G j).p ≠ inT p := fun j hj e => h.no_child j hj (by rw [e]; exact inT_par h.pp hl)
  rcases hw with ⟨q, _⟩ | ⟨_, ⟨q, e, _⟩ | ⟨_, hP⟩⟩
  · omega
  · exact absurd (q.uniq hft) e
  · have hk := WrP.keeps h.gk hin hP
    obtain ⟨y, hy, hq⟩ := hP
    have hyz : y = fiZ := by
      rcases hy with ⟨j, hj, e, _⟩ | ⟨_, e⟩
      · exact absurd e (hno j hj)
      · exact e
    subst hyz
    refine ⟨hk, ?_⟩
    rcases hq with ⟨e, _⟩ | ⟨_, ⟨e, _⟩ | ⟨_, ⟨_, hN, e, _⟩ | ⟨_, e, hG⟩⟩⟩
    · cases e
    · omega
    · left
      rcases hN with ⟨hd, e2⟩ | ⟨_, ⟨_, e2⟩ | ⟨_, e2⟩⟩
      · rw [inT_par h.pp hl] at hd
        exact absurd (hd.uniq h.gk.srt h.dir) e2
      · exact e2
      · exact absurd e2 e
    · right
      refine ⟨e, ?_, ?_⟩
      · obtain ⟨i, hi, ei⟩ := hG.has
        exact ⟨i, hi, by rw [ei]; exact inT_under p⟩
      · obtain ⟨j, hj, ej⟩ := h.put.has
        obtain ⟨i, hi, ei⟩ := hG.all j hj (hno j hj)
        exact ⟨i, hi, by rw [ei, ej]⟩
theorem RmIs.stays {n : Nat} {F : Nat → Fi} {p : ByteArray} {m : Nat} {G : Nat → Fi} {c : Int} (h : RmIs n F p m G c) (hF : FsOk n F) (hp : PathOk p) (hu : Under n F p) (hj : ∃ j, j < n ∧ (F j).p = p) : c = 15 := by
  obtain ⟨j, hj, ej⟩ := hj
  rcases h with ⟨q, e, _⟩ | ⟨_, ⟨q, _⟩ | ⟨k, hk, ek, ⟨_, e, _⟩ | ⟨q, _⟩⟩⟩
  · exact absurd (q.uniq (ftIs_ok hF hp)) e
  · exact absurd ej (q j hj)
  · exact e
  · exact absurd hu q
end Go.Proofs.Ytbdoablokoghbaa

/-
  The mathematics of FnFiles: what is written is read.
-/
namespace Go.Proofs.Ytbdoablokoghbaa
open Go.ChangeShapes Go.WideShapes Go.ChangeAt Go.RowKit
set_option linter.unusedVariables false
theorem wrT_size (t : ByteArray) (o : Nat) (s : ByteArray) : (wrT t o s).size = max t.size (o + s.size) := kstr_size _ _ _
theorem pasteF_lt (t : ByteArray) (o : Nat) (s : ByteArray) (i : Nat) : pasteF (strB t) o s s.size i < 256 := by
  unfold pasteF
  split
  · exact strB_lt _ _
  · exact strB_lt _ _
theorem wrT_at (t : ByteArray) (o : Nat) (s : ByteArray) (i : Nat) (hi : i < max t.size (o + s.size)) : strB (wrT t o s) i = pasteF (strB t) o s s.size i := by
  unfold wrT
  rw [strB_kstr _ _ _ _ (pasteF_lt _ _ _ _) hi, Nat.zero_add]
/-- What was written is read there. -/
theorem wrT_read (t : ByteArray) (o : Nat) (s : ByteArray) : partT (wrT t o s) o s.size = s := by
  have hz := wrT_size t o s
  unfold partT
  rw [show min o (wrT t o s).size = o by omega, show min s.size ((wrT t o s).size - o) = s.size by omega, kstr_extract _ _ _ (by omega)]
  conv => rhs; rw [← kstr_self s]
  refine kstr_congr (fun i hi => ?_)
  rw [wrT_at _ _ _ _ (by omega)]
  unfold pasteF
  rw [if_pos (by omega), show o + i - o = 0 + i by omega]
theorem partT_all (t : ByteArray) (h : t.size ≤ 200) : partT t 0 200 = t := by
  unfold partT
  rw [show min 0 t.size = 0 by omega, show 0 + min 200 (t.size - 0) = t.size by omega, ByteArray.extract_zero_size]
/-- What stands ahead is as it was. -/
theorem wrT_ahead (t : ByteArray) (o : Nat) (s : ByteArray) (j : Nat) (h1 : j ≤ o) (h2 : j ≤ t.size) : (wrT t o s).extract 0 j = t.extract 0 j := by
  have hz := wrT_size t o s
  have e1 := kstr_extract (wrT t o s) 0 j (by omega)
  have e2 := kstr_extract t 0 j (by omega)
  rw [Nat.zero_add] at e1 e2
  rw [e1, e2]
  refine kstr_congr (fun i hi => ?_)
  rw [wrT_at _ _ _ _ (by omega)]
  unfold pasteF
  rw [if_neg (by omega)]
theorem cutT_size (t : ByteArray) (k : Nat) : (cutT t k).size = k := kstr_size _ _ _
theorem cutT_ahead (t : ByteArray) (k j : Nat) (h1 : j ≤ k) (h2 : j ≤ t.size) : (cutT t k).extract 0 j = t.extract 0 j := by
  have hz := cutT_size t k
  have e1 := kstr_extract (cutT t k) 0 j (by omega)
  have e2 := kstr_extract t 0 j (by omega)
  rw [Nat.zero_add] at e1 e2
  rw [e1, e2]
  refine kstr_congr (fun i hi => ?_)
  unfold cutT
  rw [strB_kstr _ _ _ _ (strB_lt _ _) (by omega), Nat.zero_add]
/-- A file that stands at its path is read. -/
theorem rdIs_put {n : Nat} {F : Nat → Fi} {p t : ByteArray} (h : FsOk n F) (hp : PathOk p) {i : Nat} (hi : i < n) (e : F i = ⟨p, false, t⟩) (k l : Nat) : RdIs n F p k l (partT t k l) 0 := by
  refine .inr ⟨ftIs_ok h hp, .inr ⟨.inr ⟨i, hi, by rw [e], .inr ⟨by rw [e], rfl⟩⟩, .inr ⟨by omega, rfl, i, hi, by rw [e], by rw [e]; rfl⟩⟩⟩
/-- A write that went through. -/
structure WrYes (n : Nat) (F : Nat → Fi) (p : ByteArray) (k : Nat) (s : ByteArray) (m : Nat) (G : Nat → Fi) (y : Fi) : Prop where
  ok : FsOk n F
  pp : PathOk p
  fnd : FindIs n F p y
  dir : y.d = false
  sz : y.t.size ≤ 200
  rng : k + s.size ≤ 200
  put : PutIs n F ⟨p, false, wrT y.t k s⟩ m G
  gk : FsOk m G
theorem WrIs.yes {n : Nat} {F : Nat → Fi} {p : ByteArray} {k : Nat} {s : ByteArray} {m : Nat} {G : Nat → Fi} (h : WrIs n F p k s m G 0) : ∃ y, WrYes n F p k s m G y := by
  rcases h with ⟨_, e, _⟩ | ⟨_, ⟨_, e, _⟩ | ⟨a, hP⟩⟩
  · omega
  · exact absurd rfl e
  · obtain ⟨h1, h2, _⟩ := a.ok
    have hp : PathOk p := h2 0 (by omega)
    have hk := WrP.keeps h1 hp hP
    obtain ⟨y, hy, hq⟩ := hP
    rcases hq with ⟨_, e, _⟩ | ⟨hd, ⟨_, e, _⟩ | ⟨hr, ⟨_, _, e, _⟩ | ⟨_, _, hG⟩⟩⟩
    · omega
    · omega
    · exact absurd rfl e
    · refine ⟨y, h1, hp, hy, hd, ?_, by omega, hG, hk⟩
      rcases hy with ⟨j, hj, _, rfl⟩ | ⟨_, rfl⟩
      · exact (h1.2 j hj).1.2.1
      · decide
theorem WrIs.no {n : Nat} {F : Nat → Fi} {p : ByteArray} {k : Int} {s : ByteArray} {m : Nat} {G : Nat → Fi} {c : Int} (h : WrIs n F p k s m G c) (hc : c ≠ 0) : m = 0 ∨ SameF m n G F := by
  rcases h with ⟨_, _, e⟩ | ⟨_, ⟨_, _, e⟩ | ⟨_, y, _, hq⟩⟩
  · exact .inl e
  · exact .inl e
  · rcases hq with ⟨_, _, rfl, rfl⟩ | ⟨_, ⟨_, _, rfl, rfl⟩ | ⟨_, ⟨_, _, _, rfl, rfl⟩ | ⟨_, e, _⟩⟩⟩
    · exact .inr ⟨rfl, fun _ _ => rfl⟩
    · exact .inr ⟨rfl, fun _ _ => rfl⟩
    · exact .inr ⟨rfl, fun _ _ => rfl⟩
    · exact absurd e hc
theorem WrYes.tsz {n : Nat} {F : Nat → Fi} {p : ByteArray} {k : Nat} {s : ByteArray} {m : Nat} {G : Nat → Fi} {y : Fi} (h : WrYes n F p k s m G y) : (wrT y.t k s).size ≤ 200 := by
  rw [wrT_size]
  have := h.sz
  have := h.rng
  omega
theorem WrYes.read {n : Nat} {F : Nat → Fi} {p : ByteArray} {k : Nat} {s : ByteArray} {m : Nat} {G : Nat → Fi} {y : Fi} (h : WrYes n F p k s m G y) : RdIs m G p k s.size s 0 := by
  obtain ⟨i, hi, e⟩ := h.put.has
  have := rdIs_put h.gk h.pp hi e k s.size
  rw [wrT_read] at this
  exact this
theorem WrYes.now {n : Nat} {F : Nat → Fi} {p : ByteArray} {k : Nat} {s : ByteArray} {m : Nat} {G : Nat → Fi} {y : Fi} (h : WrYes n F p k s m G y) : RdIs m G p 0 200 (wrT y.t k s) 0 := by
  obtain ⟨i, hi, e⟩ := h.put.has
  have := rdIs_put h.gk h.pp hi e 0 200
  rw [partT_all _ h.tsz] at this
  exact this
theorem WrYes.was {n : Nat} {F : Nat → Fi} {p : ByteArray} {k : Nat} {s : ByteArray} {m : Nat} {G : Nat → Fi} {y : Fi} (h : WrYes n F p k s m G y) : ∃ g, RdIs n F p 0 200 y.t g ∧ (g = 0 ∨ g = 5) := by
  rcases h.fnd with ⟨j, hj, e, rfl⟩ | ⟨hno, rfl⟩
  · have hd := h.dir
    have := rdIs_put (t := (F j).t) h.ok h.pp hj (by generalize F j = x at *; cases x; simp_all) 0 200
    rw [partT_all _ h.sz] at this
    exact ⟨0, this, .inl rfl⟩
  · exact ⟨5, .inr ⟨ftIs_ok h.ok h.pp, .inl ⟨.inl ⟨hno, rfl⟩, by decide, rfl⟩⟩, .inr rfl⟩
theorem WrYes.cut {n : Nat} {F : Nat → Fi} {p : ByteArray} {k : Nat} {s : ByteArray} {m : Nat} {G : Nat → Fi} {y : Fi} (h : WrYes n F p k s m G y) {m' : Nat} {G' : Nat → Fi} {c : Int} (hc : CtIs m G p k m' G' c) : c = 0 ∧ FsOk m' G' ∧ RdIs m' G' p 0 200 (cutT (wrT y.t k s) k) 0 := by
  obtain ⟨i, hi, e⟩ := h.put.has
  have hr := h.rng
  have hft := ftIs_ok h.gk h.pp
  have hfl : FlIs m G p 0 := .inr ⟨i, hi, by rw [e], .inr ⟨by rw [e], rfl⟩⟩
  rcases hc with ⟨q, e2, _⟩ | ⟨_, hP⟩
  · exact absurd (q.uniq hft) e2
  · have hk := CtP.keeps h.gk h.pp hP
    rcases hP with ⟨q, e2, _⟩ | ⟨_, ⟨q, _⟩ | ⟨_, rfl, j, hj, ej, hG⟩⟩
    · exact absurd (q.uniq h.gk.srt hfl) e2
    · omega
    · obtain rfl := h.gk.srt.uniq hi hj (by rw [ej, e])
      rw [e] at hG
      obtain ⟨i2, hi2, ei2⟩ := hG.has
      have := rdIs_put hk h.pp hi2 ei2 0 200
      rw [partT_all _ (by rw [cutT_size]; simp; omega)] at this
      exact ⟨rfl, hk, this⟩
end Go.Proofs.Ytbdoablokoghbaa
