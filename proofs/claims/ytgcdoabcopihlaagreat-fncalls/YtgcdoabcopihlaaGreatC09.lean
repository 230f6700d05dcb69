/-
  A drawn call on files: fileCall of the source, FileCallOf, DatumOf (written by tools/mkdrawh.py).
-/
import Derived.Test.YtgcdoabcopihlaaGreatC08
import Derived.Test.YtgcdoabcopihlaaGreatRetCell
namespace Go.Proofs.YtgcdoabcopihlaaGreat
open Go.ChangeShapes Go.WideShapes Go.ChangeAt Go.RowKit
set_option linter.unusedVariables false
/-- What a call holds. -/
structure Fcl where
  k : Int
  a : Int
  n : Int
  p : ByteArray
  o : ByteArray
  d : ByteArray
def fclZ : Fcl := ⟨0, 0, 0, ⟨#[]⟩, ⟨#[]⟩, ⟨#[]⟩⟩
/-- The cells of a call. -/
def fclV (x : Fcl) (i : Nat) : Value := if i = 0 then .int .i64 x.k else if i = 1 then .int .i64 x.a else if i = 2 then .int .i64 x.n else if i = 3 then .string x.p else if i = 4 then .string x.o else .string x.d
def fclA (x : Fcl) : Value := .agg #[.int .i64 x.k, .int .i64 x.a, .int .i64 x.n, .string x.p, .string x.o, .string x.d]
/-- A variable that holds a call. -/
def FclB (w : World) (p : Nat) (x : Fcl) : Prop := w.rowIs p 26 6 (fclV x)
theorem FclB.c {w : World} {p : Nat} {x : Fcl} (h : FclB w p x) : w.cell? ⟨p, 0, none⟩ = some (.int .i64 x.k) ∧ w.cell? ⟨p, 1, none⟩ = some (.int .i64 x.a) ∧ w.cell? ⟨p, 2, none⟩ = some (.int .i64 x.n) ∧ w.cell? ⟨p, 3, none⟩ = some (.string x.p) ∧ w.cell? ⟨p, 4, none⟩ = some (.string x.o) ∧ w.cell? ⟨p, 5, none⟩ = some (.string x.d) := ⟨World.rowIs.cell h (i := 0) (by omega), World.rowIs.cell h (i := 1) (by omega), World.rowIs.cell h (i := 2) (by omega), World.rowIs.cell h (i := 3) (by omega), World.rowIs.cell h (i := 4) (by omega), World.rowIs.cell h (i := 5) (by omega)⟩
theorem FclB.fr {w : World} {p : Nat} {x : Fcl} (h : FclB w p x) (i : Nat) : w.frozen? ⟨p, i, none⟩ = false := World.rowIs.frozen h i
theorem FclB.ofBlock {w w' : World} {p : Nat} {x : Fcl} (h : FclB w p x) (e : w'.heap[p]? = w.heap[p]?) : FclB w' p x := World.rowIs.of_block h e
theorem FclB.lt {w : World} {p : Nat} {x : Fcl} (h : FclB w p x) : p < w.heap.size := World.rowIs.lt h
theorem FclB.onlyB {w w' : World} {p g : Nat} {x : Fcl} (h : FclB w p x) (ho : OnlyB g w w') (hne : p ≠ g) : FclB w' p x := h.ofBlock (ho.block p h.lt hne)
theorem FclB.below {w w' : World} {p : Nat} {x : Fcl} (h : FclB w p x) (hb : Below w.heap.size w w') : FclB w' p x := h.ofBlock (hb.block p h.lt)
theorem FclB.madeOf {w : World} {p : Nat} {x : Fcl} (hp : w.heap.size = p) : FclB (w.alloc (.cells #[.int .i64 x.k, .int .i64 x.a, .int .i64 x.n, .string x.p, .string x.o, .string x.d] 26)) p x := by
  subst hp
  exact World.rowIs_alloc w _ _ _ (fun i hi => by
    rcases (show i = 0 ∨ i = 1 ∨ i = 2 ∨ i = 3 ∨ i = 4 ∨ i = 5 by simp at hi; omega) with rfl | rfl | rfl | rfl | rfl | rfl <;> rfl)
/-- The world behind a store of x. -/
def fclSt (w : World) (p : Nat) (x : Fcl) : World := (((((w.setCell ⟨p, 0, none⟩ (.int .i64 x.k)).setCell ⟨p, 1, none⟩ (.int .i64 x.a)).setCell ⟨p, 2, none⟩ (.int .i64 x.n)).setCell ⟨p, 3, none⟩ (.string x.p)).setCell ⟨p, 4, none⟩ (.string x.o)).setCell ⟨p, 5, none⟩ (.string x.d)
theorem fclSt_block {w : World} {p b : Nat} {x : Fcl} (h : b ≠ p) : (fclSt w p x).heap[b]? = w.heap[b]? := by
  unfold fclSt
  rw [Below.heap_setCell _ ⟨p, 5, none⟩ _ b h, Below.heap_setCell _ ⟨p, 4, none⟩ _ b h, Below.heap_setCell _ ⟨p, 3, none⟩ _ b h, Below.heap_setCell _ ⟨p, 2, none⟩ _ b h, Below.heap_setCell _ ⟨p, 1, none⟩ _ b h, Below.heap_setCell _ ⟨p, 0, none⟩ _ b h]
theorem FclB.st {w : World} {p : Nat} {y : Fcl} (h : FclB w p y) (x : Fcl) : FclB (fclSt w p x) p x := by
  refine World.rowIs.congr (World.rowIs.set (World.rowIs.set (World.rowIs.set (World.rowIs.set (World.rowIs.set (World.rowIs.set h 0 (.int .i64 x.k)) 1 (.int .i64 x.a)) 2 (.int .i64 x.n)) 3 (.string x.p)) 4 (.string x.o)) 5 (.string x.d)) (fun i hi => ?_)
  rcases (show i = 0 ∨ i = 1 ∨ i = 2 ∨ i = 3 ∨ i = 4 ∨ i = 5 by omega) with rfl | rfl | rfl | rfl | rfl | rfl <;> rfl
theorem OnlyB.setNewH {b p : Nat} {w w' : World} (h : OnlyB b w w') (hp : w.heap.size ≤ p) (i : Nat) (v : Value) : OnlyB b w (w'.setCell ⟨p, i, none⟩ v) := ⟨h.os, h.tape, h.output, by simpa using h.size, fun k hk hn => (Below.heap_setCell w' ⟨p, i, none⟩ v k (by dsimp only; omega)).trans (h.block k hk hn)⟩
theorem OnlyB.fclSt {b p : Nat} {w w' : World} (h : OnlyB b w w') (hp : w.heap.size ≤ p) (x : Fcl) : OnlyB b w (fclSt w' p x) := (((((h.setNewH hp 0 _).setNewH hp 1 _).setNewH hp 2 _).setNewH hp 3 _).setNewH hp 4 _).setNewH hp 5 _
theorem fclSt_below {B p : Nat} {w w' : World} (h : Below B w w') (hp : B ≤ p) (x : Fcl) : Below B w (fclSt w' p x) := (((((h.setCell hp _).setCell hp _).setCell hp _).setCell hp _).setCell hp _).setCell hp _
theorem FclB.load {w : World} {p : Nat} {x : Fcl} (h : FclB w p x) : (loadVar 26 ⟨p, 0, none⟩).run Tryz.prog w = .ok (.agg #[.int .i64 x.k, .int .i64 x.a, .int .i64 x.n, .string x.p, .string x.o, .string x.d]) w := by
  obtain ⟨h0, h1, h2, h3, h4, h5⟩ := h.c
  go_simp
theorem fieldFcl3 (k a n : Int) (p o d : ByteArray) (w : World) : (Instr.field 26 (.agg #[.int .i64 k, .int .i64 a, .int .i64 n, .string p, .string o, .string d]) 3).run Tryz.prog w = .ok (.string p) w := by kernel_rfl
/-- A path, or the top. -/
def PthE (s : ByteArray) : Prop := (PathOk s ∨ s.size = 0) ∧ s.size ≤ 9
/-- A drawn call. -/
def FclD (x : Fcl) : Prop := (1 ≤ x.k ∧ x.k ≤ 7) ∧ (0 ≤ x.a ∧ x.a ≤ 200) ∧ (0 ≤ x.n ∧ x.n ≤ 200) ∧ PthE x.p ∧ PthE x.o ∧ x.d.size ≤ 16
theorem pthE0 : PthE ⟨#[]⟩ := ⟨.inr rfl, by decide⟩
theorem pthF_9 (i : Nat) : (pthF i).size ≤ 9 := by unfold pthF; (repeat' split) <;> decide
theorem drsF_9 (i : Nat) : (drsF i).size ≤ 9 := by unfold drsF; (repeat' split) <;> decide
def lstF (i : Nat) : ByteArray := if i = 0 then ⟨#[]⟩ else if i = 1 then ⟨#[100, 105, 114]⟩ else ⟨#[97]⟩
def lstC : Array Value := #[.string ⟨#[]⟩, .string ⟨#[100, 105, 114]⟩, .string ⟨#[97]⟩]
theorem lstC_strs (w : World) : Strs (w.alloc (.cells lstC 9)) (some ⟨w.heap.size, 0, none⟩) 3 lstF := fun i hi => by
  refine ⟨w.heap.size, 0, rfl, ?_⟩
  rcases (show i = 0 ∨ i = 1 ∨ i = 2 by omega) with rfl | rfl | rfl <;> simp [lstC, lstF]
theorem lstF_ok (i : Nat) : PthE (lstF i) := by
  unfold lstF
  split
  · exact pthE0
  split
  · exact ⟨.inl (nm_path (by refine ⟨by decide, by decide, by decide, ?_⟩; decide)), by decide⟩
  · exact ⟨.inl (nm_path (by refine ⟨by decide, by decide, by decide, ?_⟩; decide)), by decide⟩

set_option maxRecDepth 100000 in
theorem path_9 (b : Nat) (a : Option Addr) (len cap A : Nat) (z : Nat → Nat) (hz : ∀ i, z i < 256) (hA : A ≤ 100000) (hl : len ≤ maxLen) (hsep : ∀ x, 0 < len → a = some x → x.block ≠ b) (w : World) (h : SrcA w b a len cap A) (hc : Code8 w a len z) :
    Calls Tryz.prog 40 #[.pointer (some ⟨b, 0, none⟩)] w fun e w' => (∃ s : ByteArray, PthE s ∧ e = .returned (.string s)) ∧ SrcA w' b a len cap (A + 1) ∧ OnlyB b w w' := by
  have hbl := h.lt
  have L : Below w.heap.size w (w.alloc (.cells pthC 9)) := (Below.refl _ _).alloc (Nat.le_refl _) _
  have PK : Hid (Calls Tryz.prog 42 #[.pointer (some ⟨b, 0, none⟩), .slice (some ⟨w.heap.size, 0, none⟩) 9 9] (w.alloc (.cells pthC 9)) fun e w' => (∃ r : Nat, r < 9 ∧ e = .returned (.string (pthF r))) ∧ SrcA w' b a len cap (A + 1) ∧ OnlyB b (w.alloc (.cells pthC 9)) w') := pick_n 9 (by omega) (by omega) pthF w.heap.size b a len cap A z hz hA hl hsep _ (h.below L) (hc.below L) (by omega) (pthC_strs w)
  have HL : Hid (OnlyB b w (w.alloc (.cells pthC 9))) := (OnlyB.refl b w).below L
  clear h hc hsep hz L
  unfold pthC at PK HL
  go_enter Tryz.func40, Tryz.ntmps40
  go_wp2_with fail
  refine PK.out.mono ?_
  rintro e w1 ⟨⟨r, hr, rfl⟩, hs1, ho1⟩
  have HS1 : Hid (SrcA w1 b a len cap (A + 1)) := hs1
  have HO1 : Hid (OnlyB b w w1) := HL.out.trans ho1
  have HD : Hid (PthE (pthF r)) := ⟨.inl (pthF_ok r), pthF_9 r⟩
  clear hs1 ho1 PK HL
  generalize pthF r = s at *
  go_wp2
  go_ret
  exact ⟨⟨s, HD.out, rfl⟩, HS1.out, HO1.out⟩
/-- The source, the two variables of fileCall and what is not theirs. -/
structure FcS (w0 u : World) (b : Nat) (a : Option Addr) (len cap A q : Nat) (z : Nat → Nat) (x : Fcl) : Prop where
  src : SrcA u b a len cap A
  cd : Code8 u a len z
  box : FclB u q x
  only : OnlyB b w0 u
  ge : w0.heap.size ≤ q
  ne : q ≠ b
theorem FcS.draw {w0 u u' : World} {b : Nat} {a : Option Addr} {len cap A A' q : Nat} {z : Nat → Nat} {x : Fcl} (hsep : ∀ x, 0 < len → a = some x → x.block ≠ b) (h : FcS w0 u b a len cap A q z x) (hs : SrcA u' b a len cap A') (ho : OnlyB b u u') : FcS w0 u' b a len cap A' q z x :=
  ⟨hs, h.cd.onlyB ho hsep, h.box.onlyB ho h.ne, h.only.trans ho, h.ge, h.ne⟩
theorem FcS.st {w0 u : World} {b : Nat} {a : Option Addr} {len cap A q : Nat} {z : Nat → Nat} {x : Fcl} (hlt : ∀ x, 0 < len → a = some x → x.block < w0.heap.size) (h : FcS w0 u b a len cap A q z x) (y : Fcl) : FcS w0 (fclSt u q y) b a len cap A q z y := by
  have hne := h.ne
  have hge := h.ge
  refine ⟨h.src.ofBlock (fclSt_block (Ne.symm hne)), fun i hi => ?_, h.box.st y, h.only.fclSt hge y, hge, hne⟩
  obtain ⟨g, o, e, c⟩ := h.cd i hi
  refine ⟨g, o, e, ?_⟩
  have h1 : g < w0.heap.size := hlt ⟨g, o, none⟩ (by omega) e
  have h2 : (fclSt u q y).heap[g]? = u.heap[g]? := fclSt_block (by omega)
  generalize fclSt u q y = u2 at h2
  exact (World.cell?_of_block (w := u) (w' := u2) (a := ⟨g, o + i, none⟩) h2).trans c

set_option maxRecDepth 100000 in
set_option maxHeartbeats 4000000 in
theorem fileCall_ex (b : Nat) (a : Option Addr) (len cap A : Nat) (z : Nat → Nat) (hz : ∀ i, z i < 256) (hA : A ≤ 90000) (hl : len ≤ maxLen) (hsep : ∀ x, 0 < len → a = some x → x.block ≠ b) (w : World) (h : SrcA w b a len cap A) (hc : Code8 w a len z) :
    Calls Tryz.prog 21 #[.pointer (some ⟨b, 0, none⟩)] w fun e w' => (∃ x : Fcl, e = .returned (.agg #[.int .i64 x.k, .int .i64 x.a, .int .i64 x.n, .string x.p, .string x.o, .string x.d]) ∧ FclD x) ∧ SrcA w' b a len cap (A + 10) ∧ OnlyB b w w' := by
  have hbl := h.lt
  have hcl : ∀ x, 0 < len → a = some x → x.block < w.heap.size := fun x h0 e => hc.lt x h0 e
  have NX : Hid (∀ (n : Nat) (A : Nat) (u : World), A ≤ 100000 → SrcA u b a len cap A → Code8 u a len z → 2 ≤ n → n ≤ 9 → Calls Tryz.prog 38 #[.pointer (some ⟨b, 0, none⟩), .int .i64 (n : Int)] u fun e w' => (∃ r : Nat, r < n ∧ e = .returned (.int .i64 (r : Int))) ∧ SrcA w' b a len cap (A + 1) ∧ OnlyB b u w') := fun n A u h1 h2 h3 h4 h5 => next_ex n h4 (by omega) b a len cap A z hz h1 hl hsep u h2 h3
  have PA : Hid (∀ (A : Nat) (u : World), A ≤ 100000 → SrcA u b a len cap A → Code8 u a len z → Calls Tryz.prog 40 #[.pointer (some ⟨b, 0, none⟩)] u fun e w' => (∃ s : ByteArray, PthE s ∧ e = .returned (.string s)) ∧ SrcA w' b a len cap (A + 1) ∧ OnlyB b u w') := fun A u h1 h2 h3 => path_9 b a len cap A z hz h1 hl hsep u h2 h3
  have DT : Hid (∀ (A : Nat) (u : World), A ≤ 100000 → SrcA u b a len cap A → Code8 u a len z → Calls Tryz.prog 47 #[.pointer (some ⟨b, 0, none⟩)] u fun e w' => (∃ s : ByteArray, s.size ≤ 16 ∧ e = .returned (.string s)) ∧ SrcA w' b a len cap (A + 1) ∧ OnlyB b u w') := fun A u h1 h2 h3 => datum_f b a len cap A z hz h1 hl hsep u h2 h3
  have PK : Hid (∀ (A : Nat) (u : World), A ≤ 100000 → SrcA u b a len cap A → Code8 u a len z → Calls Tryz.prog 42 #[.pointer (some ⟨b, 0, none⟩), .slice (some ⟨u.heap.size, 0, none⟩) 3 3] (u.alloc (.cells drsC 9)) fun e w' => (∃ s : ByteArray, PthE s ∧ e = .returned (.string s)) ∧ SrcA w' b a len cap (A + 1) ∧ OnlyB b u w') := fun A u h1 h2 h3 => by
    have hbl := h2.lt
    have LB : Below u.heap.size u (u.alloc (.cells drsC 9)) := (Below.refl _ _).alloc (Nat.le_refl _) _
    refine (pick_n 3 (by omega) (by omega) drsF u.heap.size b a len cap A z hz h1 hl hsep _ (h2.below LB) (h3.below LB) (by omega) (drsC_strs u)).mono ?_
    rintro e w' ⟨⟨r, _, rfl⟩, hs, ho⟩
    exact ⟨⟨_, ⟨.inl (drsF_ok r), drsF_9 r⟩, rfl⟩, hs, ((OnlyB.refl b u).below LB).trans ho⟩
  unfold drsC at PK
  have PL : Hid (∀ (A : Nat) (u : World), A ≤ 100000 → SrcA u b a len cap A → Code8 u a len z → Calls Tryz.prog 42 #[.pointer (some ⟨b, 0, none⟩), .slice (some ⟨u.heap.size, 0, none⟩) 3 3] (u.alloc (.cells lstC 9)) fun e w' => (∃ s : ByteArray, PthE s ∧ e = .returned (.string s)) ∧ SrcA w' b a len cap (A + 1) ∧ OnlyB b u w') := fun A u h1 h2 h3 => by
    have hbl := h2.lt
    have LB : Below u.heap.size u (u.alloc (.cells lstC 9)) := (Below.refl _ _).alloc (Nat.le_refl _) _
    refine (pick_n 3 (by omega) (by omega) lstF u.heap.size b a len cap A z hz h1 hl hsep _ (h2.below LB) (h3.below LB) (by omega) (lstC_strs u)).mono ?_
    rintro e w' ⟨⟨r, _, rfl⟩, hs, ho⟩
    exact ⟨⟨_, lstF_ok r, rfl⟩, hs, ((OnlyB.refl b u).below LB).trans ho⟩
  unfold lstC at PL
  have W1 : Below w.heap.size w (w.alloc (.cells #[.int .i64 0, .int .i64 0, .int .i64 0, .string ⟨#[]⟩, .string ⟨#[]⟩, .string ⟨#[]⟩] 26)) := (Below.refl _ _).alloc (Nat.le_refl _) _
  have R0 : Hid (FcS w (w.alloc (.cells #[.int .i64 0, .int .i64 0, .int .i64 0, .string ⟨#[]⟩, .string ⟨#[]⟩, .string ⟨#[]⟩] 26)) b a len cap A w.heap.size z fclZ) := ⟨h.below W1, hc.below W1, FclB.madeOf (x := fclZ) rfl, (OnlyB.refl _ _).below W1, Nat.le_refl _, by omega⟩
  have HSEP : Hid (∀ x, 0 < len → a = some x → x.block ≠ b) := hsep
  have HCL : Hid (∀ x, 0 < len → a = some x → x.block < w.heap.size) := hcl
  have HA : Hid (A ≤ 90000) := hA
  clear h hc W1 hbl hsep hcl hA hz hl
  go_enter Tryz.func21, Tryz.ntmps21
  go_wp2_with fail
  generalize (w.alloc (.cells #[.int .i64 0, .int .i64 0, .int .i64 0, .string ⟨#[]⟩, .string ⟨#[]⟩, .string ⟨#[]⟩] 26)) = v0 at *
  obtain ⟨q0, hq0⟩ : ∃ x, x = w.heap.size := ⟨_, rfl⟩
  rw [← hq0] at R0 ⊢
  clear hq0
  refine (PA.out A v0 (by have := HA.out; omega) R0.out.src R0.out.cd).mono ?_
  rintro e u1 ⟨⟨p0, hp0, rfl⟩, hs, ho⟩
  replace R0 : Hid (FcS w u1 b a len cap (A + 1) q0 z fclZ) := R0.out.draw HSEP.out hs ho
  have HP0 : Hid (PthE p0) := hp0
  clear hs ho
  clear hp0
  go_wp2_with fail
  refine (NX.out 6 (A + 1) u1 (by have := HA.out; omega) R0.out.src R0.out.cd (by omega) (by omega)).mono ?_
  rintro e u2 ⟨⟨a0, ha0, rfl⟩, hs, ho⟩
  replace R0 : Hid (FcS w u2 b a len cap (A + 1 + 1) q0 z fclZ) := R0.out.draw HSEP.out hs ho
  have HA0 : Hid (a0 < 6) := ha0
  clear hs ho
  clear ha0
  go_wp2_with fail
  refine (DT.out (A + 1 + 1) u2 (by have := HA.out; omega) R0.out.src R0.out.cd).mono ?_
  rintro e u3 ⟨⟨d0, hd0, rfl⟩, hs, ho⟩
  replace R0 : Hid (FcS w u3 b a len cap (A + 1 + 1 + 1) q0 z fclZ) := R0.out.draw HSEP.out hs ho
  have HD0 : Hid (d0.size ≤ 16) := hd0
  clear hs ho
  clear hd0
  have BX : Below u3.heap.size u3 (u3.alloc (.cells #[.int .i64 2, .int .i64 (a0 : Int), .int .i64 0, .string p0, .string ⟨#[]⟩, .string d0] 26)) := (Below.refl _ _).alloc (Nat.le_refl _) _
  have X1 : Hid (FcS w (u3.alloc (.cells #[.int .i64 2, .int .i64 (a0 : Int), .int .i64 0, .string p0, .string ⟨#[]⟩, .string d0] 26)) b a len cap (A + 1 + 1 + 1) u3.heap.size z ⟨2, (a0 : Int), 0, p0, ⟨#[]⟩, d0⟩) := ⟨R0.out.src.below BX, R0.out.cd.below BX, FclB.madeOf (x := ⟨2, (a0 : Int), 0, p0, ⟨#[]⟩, d0⟩) rfl, R0.out.only.below BX, R0.out.only.size, by have := R0.out.src.lt; omega⟩
  have HNE : Hid (u3.heap.size ≠ q0) := by have := R0.out.box.lt; show _ ≠ _; omega
  replace R0 : Hid (FcS w (u3.alloc (.cells #[.int .i64 2, .int .i64 (a0 : Int), .int .i64 0, .string p0, .string ⟨#[]⟩, .string d0] 26)) b a len cap (A + 1 + 1 + 1) q0 z fclZ) := ⟨R0.out.src.below BX, R0.out.cd.below BX, R0.out.box.below BX, R0.out.only.below BX, R0.out.ge, R0.out.ne⟩
  have HX1 : Hid (FclD ⟨2, (a0 : Int), 0, p0, ⟨#[]⟩, d0⟩) := ⟨⟨by dsimp only; omega, by dsimp only; omega⟩, ⟨by dsimp only; omega, by have := HA0.out; dsimp only; omega⟩, ⟨by dsimp only; omega, by dsimp only; omega⟩, HP0.out, pthE0, HD0.out⟩
  clear BX HP0 HA0 HD0
  go_wp2_with fail
  generalize (u3.alloc (.cells #[.int .i64 2, .int .i64 (a0 : Int), .int .i64 0, .string p0, .string ⟨#[]⟩, .string d0] 26)) = v1 at *
  obtain ⟨q1, hq1⟩ : ∃ x, x = u3.heap.size := ⟨_, rfl⟩
  rw [← hq1] at X1 HNE ⊢
  clear hq1
  generalize hy0 : (⟨2, (a0 : Int), 0, p0, ⟨#[]⟩, d0⟩ : Fcl) = y0 at *
  clear hy0
  refine (NX.out 9 (A + 1 + 1 + 1) v1 (by have := HA.out; omega) R0.out.src R0.out.cd (by omega) (by omega)).mono ?_
  rintro e u4 ⟨⟨k, hk, rfl⟩, hs, ho⟩
  replace R0 : Hid (FcS w u4 b a len cap (A + 1 + 1 + 1 + 1) q0 z fclZ) := R0.out.draw HSEP.out hs ho
  replace X1 : Hid (FcS w u4 b a len cap (A + 1 + 1 + 1 + 1) q1 z y0) := X1.out.draw HSEP.out hs ho
  clear hs ho
  obtain ⟨K, hK⟩ : ∃ K : Int, K = (k : Int) := ⟨_, rfl⟩
  rw [← hK]
  have HK : K = 0 ∨ K = 1 ∨ K = 2 ∨ K = 3 ∨ K = 4 ∨ K = 5 ∨ K = 6 ∨ K = 7 ∨ K = 8 := by omega
  clear hK hk k
  rcases HK with rfl | rfl | rfl | rfl | rfl | rfl | rfl | rfl | rfl
  · go_wp2_with fail
    refine (PK.out (A + 1 + 1 + 1 + 1) u4 (by have := HA.out; omega) R0.out.src R0.out.cd).mono ?_
    rintro e u5 ⟨⟨p1, hp1, rfl⟩, hs, ho⟩
    replace R0 : Hid (FcS w u5 b a len cap (A + 1 + 1 + 1 + 1 + 1) q0 z fclZ) := R0.out.draw HSEP.out hs ho
    replace X1 : Hid (FcS w u5 b a len cap (A + 1 + 1 + 1 + 1 + 1) q1 z y0) := X1.out.draw HSEP.out hs ho
    have HP1 : Hid (PthE p1) := hp1
    clear hs ho
    clear hp1
    have X2 : Hid (FcS w (fclSt u5 q1 ⟨1, 0, 0, p1, ⟨#[]⟩, ⟨#[]⟩⟩) b a len cap (A + 1 + 1 + 1 + 1 + 1) q1 z ⟨1, 0, 0, p1, ⟨#[]⟩, ⟨#[]⟩⟩) := X1.out.st HCL.out ⟨1, 0, 0, p1, ⟨#[]⟩, ⟨#[]⟩⟩
    have R2 : Hid (FcS w (fclSt u5 q1 ⟨1, 0, 0, p1, ⟨#[]⟩, ⟨#[]⟩⟩) b a len cap (A + 1 + 1 + 1 + 1 + 1) q0 z fclZ) := ⟨X2.out.src, X2.out.cd, R0.out.box.ofBlock (fclSt_block (Ne.symm HNE.out)), X2.out.only, R0.out.ge, R0.out.ne⟩
    have HY : Hid (FclD ⟨1, 0, 0, p1, ⟨#[]⟩, ⟨#[]⟩⟩) := ⟨⟨by dsimp only; omega, by dsimp only; omega⟩, ⟨by dsimp only; omega, by dsimp only; omega⟩, ⟨by dsimp only; omega, by dsimp only; omega⟩, HP1.out, pthE0, by show (0 : Nat) ≤ 16; omega⟩
    obtain ⟨k0, k1, k2, k3, k4, k5⟩ := X1.out.box.c
    have f0 := X1.out.box.fr 0
    have f1 := X1.out.box.fr 1
    have f2 := X1.out.box.fr 2
    have f3 := X1.out.box.fr 3
    have f4 := X1.out.box.fr 4
    have f5 := X1.out.box.fr 5
    clear X1 R0
    go_upto_region 16 with fail
    clear k0 k1 k2 k3 k4 k5 f0 f1 f2 f3 f4 f5
    change Code.wp _ _ _ _ (fclSt u5 q1 ⟨1, 0, 0, p1, ⟨#[]⟩, ⟨#[]⟩⟩)
    generalize (fclSt u5 q1 ⟨1, 0, 0, p1, ⟨#[]⟩, ⟨#[]⟩⟩) = v2 at X2 R2 ⊢
    generalize (⟨1, 0, 0, p1, ⟨#[]⟩, ⟨#[]⟩⟩ : Fcl) = y at X2 HY
    have X3 : Hid (FclB (fclSt v2 q0 y) q0 y) := R2.out.box.st y
    have QS : Hid (SrcA (fclSt v2 q0 y) b a len cap (A + 10)) := (R2.out.src.ofBlock (fclSt_block (Ne.symm R2.out.ne))).mono (by omega)
    have QO : Hid (OnlyB b w (fclSt v2 q0 y)) := R2.out.only.fclSt R2.out.ge y
    obtain ⟨k0, k1, k2, k3, k4, k5⟩ := X2.out.box.c
    obtain ⟨r0, r1, r2, r3, r4, r5⟩ := R2.out.box.c
    have f0 := R2.out.box.fr 0
    have f1 := R2.out.box.fr 1
    have f2 := R2.out.box.fr 2
    have f3 := R2.out.box.fr 3
    have f4 := R2.out.box.fr 4
    have f5 := R2.out.box.fr 5
    clear X2 R2
    go_wp2
    exact ret_cell (b := q0) (v := .agg #[.int .i64 y.k, .int .i64 y.a, .int .i64 y.n, .string y.p, .string y.o, .string y.d]) Tryz.results21 rfl X3.out.load ⟨⟨y, rfl, HY.out⟩, QS.out, QO.out⟩
  · go_wp2_with fail
    refine (PK.out (A + 1 + 1 + 1 + 1) u4 (by have := HA.out; omega) R0.out.src R0.out.cd).mono ?_
    rintro e u5 ⟨⟨p1, hp1, rfl⟩, hs, ho⟩
    replace R0 : Hid (FcS w u5 b a len cap (A + 1 + 1 + 1 + 1 + 1) q0 z fclZ) := R0.out.draw HSEP.out hs ho
    replace X1 : Hid (FcS w u5 b a len cap (A + 1 + 1 + 1 + 1 + 1) q1 z y0) := X1.out.draw HSEP.out hs ho
    have HP1 : Hid (PthE p1) := hp1
    clear hs ho
    clear hp1
    have X2 : Hid (FcS w (fclSt u5 q1 ⟨1, 0, 0, p1, ⟨#[]⟩, ⟨#[]⟩⟩) b a len cap (A + 1 + 1 + 1 + 1 + 1) q1 z ⟨1, 0, 0, p1, ⟨#[]⟩, ⟨#[]⟩⟩) := X1.out.st HCL.out ⟨1, 0, 0, p1, ⟨#[]⟩, ⟨#[]⟩⟩
    have R2 : Hid (FcS w (fclSt u5 q1 ⟨1, 0, 0, p1, ⟨#[]⟩, ⟨#[]⟩⟩) b a len cap (A + 1 + 1 + 1 + 1 + 1) q0 z fclZ) := ⟨X2.out.src, X2.out.cd, R0.out.box.ofBlock (fclSt_block (Ne.symm HNE.out)), X2.out.only, R0.out.ge, R0.out.ne⟩
    have HY : Hid (FclD ⟨1, 0, 0, p1, ⟨#[]⟩, ⟨#[]⟩⟩) := ⟨⟨by dsimp only; omega, by dsimp only; omega⟩, ⟨by dsimp only; omega, by dsimp only; omega⟩, ⟨by dsimp only; omega, by dsimp only; omega⟩, HP1.out, pthE0, by show (0 : Nat) ≤ 16; omega⟩
    obtain ⟨k0, k1, k2, k3, k4, k5⟩ := X1.out.box.c
    have f0 := X1.out.box.fr 0
    have f1 := X1.out.box.fr 1
    have f2 := X1.out.box.fr 2
    have f3 := X1.out.box.fr 3
    have f4 := X1.out.box.fr 4
    have f5 := X1.out.box.fr 5
    clear X1 R0
    go_upto_region 16 with fail
    clear k0 k1 k2 k3 k4 k5 f0 f1 f2 f3 f4 f5
    change Code.wp _ _ _ _ (fclSt u5 q1 ⟨1, 0, 0, p1, ⟨#[]⟩, ⟨#[]⟩⟩)
    generalize (fclSt u5 q1 ⟨1, 0, 0, p1, ⟨#[]⟩, ⟨#[]⟩⟩) = v2 at X2 R2 ⊢
    generalize (⟨1, 0, 0, p1, ⟨#[]⟩, ⟨#[]⟩⟩ : Fcl) = y at X2 HY
    have X3 : Hid (FclB (fclSt v2 q0 y) q0 y) := R2.out.box.st y
    have QS : Hid (SrcA (fclSt v2 q0 y) b a len cap (A + 10)) := (R2.out.src.ofBlock (fclSt_block (Ne.symm R2.out.ne))).mono (by omega)
    have QO : Hid (OnlyB b w (fclSt v2 q0 y)) := R2.out.only.fclSt R2.out.ge y
    obtain ⟨k0, k1, k2, k3, k4, k5⟩ := X2.out.box.c
    obtain ⟨r0, r1, r2, r3, r4, r5⟩ := R2.out.box.c
    have f0 := R2.out.box.fr 0
    have f1 := R2.out.box.fr 1
    have f2 := R2.out.box.fr 2
    have f3 := R2.out.box.fr 3
    have f4 := R2.out.box.fr 4
    have f5 := R2.out.box.fr 5
    clear X2 R2
    go_wp2
    exact ret_cell (b := q0) (v := .agg #[.int .i64 y.k, .int .i64 y.a, .int .i64 y.n, .string y.p, .string y.o, .string y.d]) Tryz.results21 rfl X3.out.load ⟨⟨y, rfl, HY.out⟩, QS.out, QO.out⟩
  · go_wp2_with fail
    refine (PA.out (A + 1 + 1 + 1 + 1) u4 (by have := HA.out; omega) R0.out.src R0.out.cd).mono ?_
    rintro e u5 ⟨⟨p1, hp1, rfl⟩, hs, ho⟩
    replace R0 : Hid (FcS w u5 b a len cap (A + 1 + 1 + 1 + 1 + 1) q0 z fclZ) := R0.out.draw HSEP.out hs ho
    replace X1 : Hid (FcS w u5 b a len cap (A + 1 + 1 + 1 + 1 + 1) q1 z y0) := X1.out.draw HSEP.out hs ho
    have HP1 : Hid (PthE p1) := hp1
    clear hs ho
    clear hp1
    have X2 : Hid (FcS w (fclSt u5 q1 ⟨3, 0, 200, p1, ⟨#[]⟩, ⟨#[]⟩⟩) b a len cap (A + 1 + 1 + 1 + 1 + 1) q1 z ⟨3, 0, 200, p1, ⟨#[]⟩, ⟨#[]⟩⟩) := X1.out.st HCL.out ⟨3, 0, 200, p1, ⟨#[]⟩, ⟨#[]⟩⟩
    have R2 : Hid (FcS w (fclSt u5 q1 ⟨3, 0, 200, p1, ⟨#[]⟩, ⟨#[]⟩⟩) b a len cap (A + 1 + 1 + 1 + 1 + 1) q0 z fclZ) := ⟨X2.out.src, X2.out.cd, R0.out.box.ofBlock (fclSt_block (Ne.symm HNE.out)), X2.out.only, R0.out.ge, R0.out.ne⟩
    have HY : Hid (FclD ⟨3, 0, 200, p1, ⟨#[]⟩, ⟨#[]⟩⟩) := ⟨⟨by dsimp only; omega, by dsimp only; omega⟩, ⟨by dsimp only; omega, by dsimp only; omega⟩, ⟨by dsimp only; omega, by dsimp only; omega⟩, HP1.out, pthE0, by show (0 : Nat) ≤ 16; omega⟩
    obtain ⟨k0, k1, k2, k3, k4, k5⟩ := X1.out.box.c
    have f0 := X1.out.box.fr 0
    have f1 := X1.out.box.fr 1
    have f2 := X1.out.box.fr 2
    have f3 := X1.out.box.fr 3
    have f4 := X1.out.box.fr 4
    have f5 := X1.out.box.fr 5
    clear X1 R0
    go_upto_region 16 with fail
    clear k0 k1 k2 k3 k4 k5 f0 f1 f2 f3 f4 f5
    change Code.wp _ _ _ _ (fclSt u5 q1 ⟨3, 0, 200, p1, ⟨#[]⟩, ⟨#[]⟩⟩)
    generalize (fclSt u5 q1 ⟨3, 0, 200, p1, ⟨#[]⟩, ⟨#[]⟩⟩) = v2 at X2 R2 ⊢
    generalize (⟨3, 0, 200, p1, ⟨#[]⟩, ⟨#[]⟩⟩ : Fcl) = y at X2 HY
    have X3 : Hid (FclB (fclSt v2 q0 y) q0 y) := R2.out.box.st y
    have QS : Hid (SrcA (fclSt v2 q0 y) b a len cap (A + 10)) := (R2.out.src.ofBlock (fclSt_block (Ne.symm R2.out.ne))).mono (by omega)
    have QO : Hid (OnlyB b w (fclSt v2 q0 y)) := R2.out.only.fclSt R2.out.ge y
    obtain ⟨k0, k1, k2, k3, k4, k5⟩ := X2.out.box.c
    obtain ⟨r0, r1, r2, r3, r4, r5⟩ := R2.out.box.c
    have f0 := R2.out.box.fr 0
    have f1 := R2.out.box.fr 1
    have f2 := R2.out.box.fr 2
    have f3 := R2.out.box.fr 3
    have f4 := R2.out.box.fr 4
    have f5 := R2.out.box.fr 5
    clear X2 R2
    go_wp2
    exact ret_cell (b := q0) (v := .agg #[.int .i64 y.k, .int .i64 y.a, .int .i64 y.n, .string y.p, .string y.o, .string y.d]) Tryz.results21 rfl X3.out.load ⟨⟨y, rfl, HY.out⟩, QS.out, QO.out⟩
  · go_wp2_with fail
    refine (PA.out (A + 1 + 1 + 1 + 1) u4 (by have := HA.out; omega) R0.out.src R0.out.cd).mono ?_
    rintro e u5 ⟨⟨p1, hp1, rfl⟩, hs, ho⟩
    replace R0 : Hid (FcS w u5 b a len cap (A + 1 + 1 + 1 + 1 + 1) q0 z fclZ) := R0.out.draw HSEP.out hs ho
    replace X1 : Hid (FcS w u5 b a len cap (A + 1 + 1 + 1 + 1 + 1) q1 z y0) := X1.out.draw HSEP.out hs ho
    have HP1 : Hid (PthE p1) := hp1
    clear hs ho
    clear hp1
    go_wp2_with fail
    refine (NX.out 9 (A + 1 + 1 + 1 + 1 + 1) u5 (by have := HA.out; omega) R0.out.src R0.out.cd (by omega) (by omega)).mono ?_
    rintro e u6 ⟨⟨n1, hn1, rfl⟩, hs, ho⟩
    replace R0 : Hid (FcS w u6 b a len cap (A + 1 + 1 + 1 + 1 + 1 + 1) q0 z fclZ) := R0.out.draw HSEP.out hs ho
    replace X1 : Hid (FcS w u6 b a len cap (A + 1 + 1 + 1 + 1 + 1 + 1) q1 z y0) := X1.out.draw HSEP.out hs ho
    have HN1 : Hid (n1 < 9) := hn1
    clear hs ho
    clear hn1
    have X2 : Hid (FcS w (fclSt u6 q1 ⟨4, 0, (n1 : Int), p1, ⟨#[]⟩, ⟨#[]⟩⟩) b a len cap (A + 1 + 1 + 1 + 1 + 1 + 1) q1 z ⟨4, 0, (n1 : Int), p1, ⟨#[]⟩, ⟨#[]⟩⟩) := X1.out.st HCL.out ⟨4, 0, (n1 : Int), p1, ⟨#[]⟩, ⟨#[]⟩⟩
    have R2 : Hid (FcS w (fclSt u6 q1 ⟨4, 0, (n1 : Int), p1, ⟨#[]⟩, ⟨#[]⟩⟩) b a len cap (A + 1 + 1 + 1 + 1 + 1 + 1) q0 z fclZ) := ⟨X2.out.src, X2.out.cd, R0.out.box.ofBlock (fclSt_block (Ne.symm HNE.out)), X2.out.only, R0.out.ge, R0.out.ne⟩
    have HY : Hid (FclD ⟨4, 0, (n1 : Int), p1, ⟨#[]⟩, ⟨#[]⟩⟩) := ⟨⟨by dsimp only; omega, by dsimp only; omega⟩, ⟨by dsimp only; omega, by dsimp only; omega⟩, ⟨by have := HN1.out; dsimp only; omega, by have := HN1.out; dsimp only; omega⟩, HP1.out, pthE0, by show (0 : Nat) ≤ 16; omega⟩
    obtain ⟨k0, k1, k2, k3, k4, k5⟩ := X1.out.box.c
    have f0 := X1.out.box.fr 0
    have f1 := X1.out.box.fr 1
    have f2 := X1.out.box.fr 2
    have f3 := X1.out.box.fr 3
    have f4 := X1.out.box.fr 4
    have f5 := X1.out.box.fr 5
    clear X1 R0
    go_upto_region 16 with fail
    clear k0 k1 k2 k3 k4 k5 f0 f1 f2 f3 f4 f5
    change Code.wp _ _ _ _ (fclSt u6 q1 ⟨4, 0, (n1 : Int), p1, ⟨#[]⟩, ⟨#[]⟩⟩)
    generalize (fclSt u6 q1 ⟨4, 0, (n1 : Int), p1, ⟨#[]⟩, ⟨#[]⟩⟩) = v2 at X2 R2 ⊢
    generalize (⟨4, 0, (n1 : Int), p1, ⟨#[]⟩, ⟨#[]⟩⟩ : Fcl) = y at X2 HY
    have X3 : Hid (FclB (fclSt v2 q0 y) q0 y) := R2.out.box.st y
    have QS : Hid (SrcA (fclSt v2 q0 y) b a len cap (A + 10)) := (R2.out.src.ofBlock (fclSt_block (Ne.symm R2.out.ne))).mono (by omega)
    have QO : Hid (OnlyB b w (fclSt v2 q0 y)) := R2.out.only.fclSt R2.out.ge y
    obtain ⟨k0, k1, k2, k3, k4, k5⟩ := X2.out.box.c
    obtain ⟨r0, r1, r2, r3, r4, r5⟩ := R2.out.box.c
    have f0 := R2.out.box.fr 0
    have f1 := R2.out.box.fr 1
    have f2 := R2.out.box.fr 2
    have f3 := R2.out.box.fr 3
    have f4 := R2.out.box.fr 4
    have f5 := R2.out.box.fr 5
    clear X2 R2
    go_wp2
    exact ret_cell (b := q0) (v := .agg #[.int .i64 y.k, .int .i64 y.a, .int .i64 y.n, .string y.p, .string y.o, .string y.d]) Tryz.results21 rfl X3.out.load ⟨⟨y, rfl, HY.out⟩, QS.out, QO.out⟩
  · go_wp2_with fail
    refine (PA.out (A + 1 + 1 + 1 + 1) u4 (by have := HA.out; omega) R0.out.src R0.out.cd).mono ?_
    rintro e u5 ⟨⟨p1, hp1, rfl⟩, hs, ho⟩
    replace R0 : Hid (FcS w u5 b a len cap (A + 1 + 1 + 1 + 1 + 1) q0 z fclZ) := R0.out.draw HSEP.out hs ho
    replace X1 : Hid (FcS w u5 b a len cap (A + 1 + 1 + 1 + 1 + 1) q1 z y0) := X1.out.draw HSEP.out hs ho
    have HP1 : Hid (PthE p1) := hp1
    clear hs ho
    clear hp1
    go_wp2_with fail
    refine (PA.out (A + 1 + 1 + 1 + 1 + 1) u5 (by have := HA.out; omega) R0.out.src R0.out.cd).mono ?_
    rintro e u6 ⟨⟨p2, hp2, rfl⟩, hs, ho⟩
    replace R0 : Hid (FcS w u6 b a len cap (A + 1 + 1 + 1 + 1 + 1 + 1) q0 z fclZ) := R0.out.draw HSEP.out hs ho
    replace X1 : Hid (FcS w u6 b a len cap (A + 1 + 1 + 1 + 1 + 1 + 1) q1 z y0) := X1.out.draw HSEP.out hs ho
    have HP2 : Hid (PthE p2) := hp2
    clear hs ho
    clear hp2
    have X2 : Hid (FcS w (fclSt u6 q1 ⟨5, 0, 0, p1, p2, ⟨#[]⟩⟩) b a len cap (A + 1 + 1 + 1 + 1 + 1 + 1) q1 z ⟨5, 0, 0, p1, p2, ⟨#[]⟩⟩) := X1.out.st HCL.out ⟨5, 0, 0, p1, p2, ⟨#[]⟩⟩
    have R2 : Hid (FcS w (fclSt u6 q1 ⟨5, 0, 0, p1, p2, ⟨#[]⟩⟩) b a len cap (A + 1 + 1 + 1 + 1 + 1 + 1) q0 z fclZ) := ⟨X2.out.src, X2.out.cd, R0.out.box.ofBlock (fclSt_block (Ne.symm HNE.out)), X2.out.only, R0.out.ge, R0.out.ne⟩
    have HY : Hid (FclD ⟨5, 0, 0, p1, p2, ⟨#[]⟩⟩) := ⟨⟨by dsimp only; omega, by dsimp only; omega⟩, ⟨by dsimp only; omega, by dsimp only; omega⟩, ⟨by dsimp only; omega, by dsimp only; omega⟩, HP1.out, HP2.out, by show (0 : Nat) ≤ 16; omega⟩
    obtain ⟨k0, k1, k2, k3, k4, k5⟩ := X1.out.box.c
    have f0 := X1.out.box.fr 0
    have f1 := X1.out.box.fr 1
    have f2 := X1.out.box.fr 2
    have f3 := X1.out.box.fr 3
    have f4 := X1.out.box.fr 4
    have f5 := X1.out.box.fr 5
    clear X1 R0
    go_upto_region 16 with fail
    clear k0 k1 k2 k3 k4 k5 f0 f1 f2 f3 f4 f5
    change Code.wp _ _ _ _ (fclSt u6 q1 ⟨5, 0, 0, p1, p2, ⟨#[]⟩⟩)
    generalize (fclSt u6 q1 ⟨5, 0, 0, p1, p2, ⟨#[]⟩⟩) = v2 at X2 R2 ⊢
    generalize (⟨5, 0, 0, p1, p2, ⟨#[]⟩⟩ : Fcl) = y at X2 HY
    have X3 : Hid (FclB (fclSt v2 q0 y) q0 y) := R2.out.box.st y
    have QS : Hid (SrcA (fclSt v2 q0 y) b a len cap (A + 10)) := (R2.out.src.ofBlock (fclSt_block (Ne.symm R2.out.ne))).mono (by omega)
    have QO : Hid (OnlyB b w (fclSt v2 q0 y)) := R2.out.only.fclSt R2.out.ge y
    obtain ⟨k0, k1, k2, k3, k4, k5⟩ := X2.out.box.c
    obtain ⟨r0, r1, r2, r3, r4, r5⟩ := R2.out.box.c
    have f0 := R2.out.box.fr 0
    have f1 := R2.out.box.fr 1
    have f2 := R2.out.box.fr 2
    have f3 := R2.out.box.fr 3
    have f4 := R2.out.box.fr 4
    have f5 := R2.out.box.fr 5
    clear X2 R2
    go_wp2
    exact ret_cell (b := q0) (v := .agg #[.int .i64 y.k, .int .i64 y.a, .int .i64 y.n, .string y.p, .string y.o, .string y.d]) Tryz.results21 rfl X3.out.load ⟨⟨y, rfl, HY.out⟩, QS.out, QO.out⟩
  · go_wp2_with fail
    refine (PA.out (A + 1 + 1 + 1 + 1) u4 (by have := HA.out; omega) R0.out.src R0.out.cd).mono ?_
    rintro e u5 ⟨⟨p1, hp1, rfl⟩, hs, ho⟩
    replace R0 : Hid (FcS w u5 b a len cap (A + 1 + 1 + 1 + 1 + 1) q0 z fclZ) := R0.out.draw HSEP.out hs ho
    replace X1 : Hid (FcS w u5 b a len cap (A + 1 + 1 + 1 + 1 + 1) q1 z y0) := X1.out.draw HSEP.out hs ho
    have HP1 : Hid (PthE p1) := hp1
    clear hs ho
    clear hp1
    have X2 : Hid (FcS w (fclSt u5 q1 ⟨6, 0, 0, p1, ⟨#[]⟩, ⟨#[]⟩⟩) b a len cap (A + 1 + 1 + 1 + 1 + 1) q1 z ⟨6, 0, 0, p1, ⟨#[]⟩, ⟨#[]⟩⟩) := X1.out.st HCL.out ⟨6, 0, 0, p1, ⟨#[]⟩, ⟨#[]⟩⟩
    have R2 : Hid (FcS w (fclSt u5 q1 ⟨6, 0, 0, p1, ⟨#[]⟩, ⟨#[]⟩⟩) b a len cap (A + 1 + 1 + 1 + 1 + 1) q0 z fclZ) := ⟨X2.out.src, X2.out.cd, R0.out.box.ofBlock (fclSt_block (Ne.symm HNE.out)), X2.out.only, R0.out.ge, R0.out.ne⟩
    have HY : Hid (FclD ⟨6, 0, 0, p1, ⟨#[]⟩, ⟨#[]⟩⟩) := ⟨⟨by dsimp only; omega, by dsimp only; omega⟩, ⟨by dsimp only; omega, by dsimp only; omega⟩, ⟨by dsimp only; omega, by dsimp only; omega⟩, HP1.out, pthE0, by show (0 : Nat) ≤ 16; omega⟩
    obtain ⟨k0, k1, k2, k3, k4, k5⟩ := X1.out.box.c
    have f0 := X1.out.box.fr 0
    have f1 := X1.out.box.fr 1
    have f2 := X1.out.box.fr 2
    have f3 := X1.out.box.fr 3
    have f4 := X1.out.box.fr 4
    have f5 := X1.out.box.fr 5
    clear X1 R0
    go_upto_region 16 with fail
    clear k0 k1 k2 k3 k4 k5 f0 f1 f2 f3 f4 f5
    change Code.wp _ _ _ _ (fclSt u5 q1 ⟨6, 0, 0, p1, ⟨#[]⟩, ⟨#[]⟩⟩)
    generalize (fclSt u5 q1 ⟨6, 0, 0, p1, ⟨#[]⟩, ⟨#[]⟩⟩) = v2 at X2 R2 ⊢
    generalize (⟨6, 0, 0, p1, ⟨#[]⟩, ⟨#[]⟩⟩ : Fcl) = y at X2 HY
    have X3 : Hid (FclB (fclSt v2 q0 y) q0 y) := R2.out.box.st y
    have QS : Hid (SrcA (fclSt v2 q0 y) b a len cap (A + 10)) := (R2.out.src.ofBlock (fclSt_block (Ne.symm R2.out.ne))).mono (by omega)
    have QO : Hid (OnlyB b w (fclSt v2 q0 y)) := R2.out.only.fclSt R2.out.ge y
    obtain ⟨k0, k1, k2, k3, k4, k5⟩ := X2.out.box.c
    obtain ⟨r0, r1, r2, r3, r4, r5⟩ := R2.out.box.c
    have f0 := R2.out.box.fr 0
    have f1 := R2.out.box.fr 1
    have f2 := R2.out.box.fr 2
    have f3 := R2.out.box.fr 3
    have f4 := R2.out.box.fr 4
    have f5 := R2.out.box.fr 5
    clear X2 R2
    go_wp2
    exact ret_cell (b := q0) (v := .agg #[.int .i64 y.k, .int .i64 y.a, .int .i64 y.n, .string y.p, .string y.o, .string y.d]) Tryz.results21 rfl X3.out.load ⟨⟨y, rfl, HY.out⟩, QS.out, QO.out⟩
  · go_wp2_with fail
    refine (PL.out (A + 1 + 1 + 1 + 1) u4 (by have := HA.out; omega) R0.out.src R0.out.cd).mono ?_
    rintro e u5 ⟨⟨p1, hp1, rfl⟩, hs, ho⟩
    replace R0 : Hid (FcS w u5 b a len cap (A + 1 + 1 + 1 + 1 + 1) q0 z fclZ) := R0.out.draw HSEP.out hs ho
    replace X1 : Hid (FcS w u5 b a len cap (A + 1 + 1 + 1 + 1 + 1) q1 z y0) := X1.out.draw HSEP.out hs ho
    have HP1 : Hid (PthE p1) := hp1
    clear hs ho
    clear hp1
    have X2 : Hid (FcS w (fclSt u5 q1 ⟨7, 0, 0, p1, ⟨#[]⟩, ⟨#[]⟩⟩) b a len cap (A + 1 + 1 + 1 + 1 + 1) q1 z ⟨7, 0, 0, p1, ⟨#[]⟩, ⟨#[]⟩⟩) := X1.out.st HCL.out ⟨7, 0, 0, p1, ⟨#[]⟩, ⟨#[]⟩⟩
    have R2 : Hid (FcS w (fclSt u5 q1 ⟨7, 0, 0, p1, ⟨#[]⟩, ⟨#[]⟩⟩) b a len cap (A + 1 + 1 + 1 + 1 + 1) q0 z fclZ) := ⟨X2.out.src, X2.out.cd, R0.out.box.ofBlock (fclSt_block (Ne.symm HNE.out)), X2.out.only, R0.out.ge, R0.out.ne⟩
    have HY : Hid (FclD ⟨7, 0, 0, p1, ⟨#[]⟩, ⟨#[]⟩⟩) := ⟨⟨by dsimp only; omega, by dsimp only; omega⟩, ⟨by dsimp only; omega, by dsimp only; omega⟩, ⟨by dsimp only; omega, by dsimp only; omega⟩, HP1.out, pthE0, by show (0 : Nat) ≤ 16; omega⟩
    obtain ⟨k0, k1, k2, k3, k4, k5⟩ := X1.out.box.c
    have f0 := X1.out.box.fr 0
    have f1 := X1.out.box.fr 1
    have f2 := X1.out.box.fr 2
    have f3 := X1.out.box.fr 3
    have f4 := X1.out.box.fr 4
    have f5 := X1.out.box.fr 5
    clear X1 R0
    go_upto_region 16 with fail
    clear k0 k1 k2 k3 k4 k5 f0 f1 f2 f3 f4 f5
    change Code.wp _ _ _ _ (fclSt u5 q1 ⟨7, 0, 0, p1, ⟨#[]⟩, ⟨#[]⟩⟩)
    generalize (fclSt u5 q1 ⟨7, 0, 0, p1, ⟨#[]⟩, ⟨#[]⟩⟩) = v2 at X2 R2 ⊢
    generalize (⟨7, 0, 0, p1, ⟨#[]⟩, ⟨#[]⟩⟩ : Fcl) = y at X2 HY
    have X3 : Hid (FclB (fclSt v2 q0 y) q0 y) := R2.out.box.st y
    have QS : Hid (SrcA (fclSt v2 q0 y) b a len cap (A + 10)) := (R2.out.src.ofBlock (fclSt_block (Ne.symm R2.out.ne))).mono (by omega)
    have QO : Hid (OnlyB b w (fclSt v2 q0 y)) := R2.out.only.fclSt R2.out.ge y
    obtain ⟨k0, k1, k2, k3, k4, k5⟩ := X2.out.box.c
    obtain ⟨r0, r1, r2, r3, r4, r5⟩ := R2.out.box.c
    have f0 := R2.out.box.fr 0
    have f1 := R2.out.box.fr 1
    have f2 := R2.out.box.fr 2
    have f3 := R2.out.box.fr 3
    have f4 := R2.out.box.fr 4
    have f5 := R2.out.box.fr 5
    clear X2 R2
    go_wp2
    exact ret_cell (b := q0) (v := .agg #[.int .i64 y.k, .int .i64 y.a, .int .i64 y.n, .string y.p, .string y.o, .string y.d]) Tryz.results21 rfl X3.out.load ⟨⟨y, rfl, HY.out⟩, QS.out, QO.out⟩
  · skip
    have X2 : Hid (FcS w u4 b a len cap (A + 1 + 1 + 1 + 1) q1 z y0) := X1.out
    have R2 : Hid (FcS w u4 b a len cap (A + 1 + 1 + 1 + 1) q0 z fclZ) := R0.out
    have HY : Hid (FclD y0) := HX1.out
    clear X1 R0 HX1
    go_upto_region 16 with fail
    obtain ⟨v2, hv2⟩ : ∃ v2, v2 = u4 := ⟨_, rfl⟩
    obtain ⟨y, hy⟩ : ∃ y, y = y0 := ⟨_, rfl⟩
    rw [← hv2] at X2 R2 ⊢
    rw [← hy] at X2 HY
    clear hv2 hy
    have X3 : Hid (FclB (fclSt v2 q0 y) q0 y) := R2.out.box.st y
    have QS : Hid (SrcA (fclSt v2 q0 y) b a len cap (A + 10)) := (R2.out.src.ofBlock (fclSt_block (Ne.symm R2.out.ne))).mono (by omega)
    have QO : Hid (OnlyB b w (fclSt v2 q0 y)) := R2.out.only.fclSt R2.out.ge y
    obtain ⟨k0, k1, k2, k3, k4, k5⟩ := X2.out.box.c
    obtain ⟨r0, r1, r2, r3, r4, r5⟩ := R2.out.box.c
    have f0 := R2.out.box.fr 0
    have f1 := R2.out.box.fr 1
    have f2 := R2.out.box.fr 2
    have f3 := R2.out.box.fr 3
    have f4 := R2.out.box.fr 4
    have f5 := R2.out.box.fr 5
    clear X2 R2
    go_wp2
    exact ret_cell (b := q0) (v := .agg #[.int .i64 y.k, .int .i64 y.a, .int .i64 y.n, .string y.p, .string y.o, .string y.d]) Tryz.results21 rfl X3.out.load ⟨⟨y, rfl, HY.out⟩, QS.out, QO.out⟩
  · skip
    have X2 : Hid (FcS w u4 b a len cap (A + 1 + 1 + 1 + 1) q1 z y0) := X1.out
    have R2 : Hid (FcS w u4 b a len cap (A + 1 + 1 + 1 + 1) q0 z fclZ) := R0.out
    have HY : Hid (FclD y0) := HX1.out
    clear X1 R0 HX1
    go_upto_region 16 with fail
    obtain ⟨v2, hv2⟩ : ∃ v2, v2 = u4 := ⟨_, rfl⟩
    obtain ⟨y, hy⟩ : ∃ y, y = y0 := ⟨_, rfl⟩
    rw [← hv2] at X2 R2 ⊢
    rw [← hy] at X2 HY
    clear hv2 hy
    have X3 : Hid (FclB (fclSt v2 q0 y) q0 y) := R2.out.box.st y
    have QS : Hid (SrcA (fclSt v2 q0 y) b a len cap (A + 10)) := (R2.out.src.ofBlock (fclSt_block (Ne.symm R2.out.ne))).mono (by omega)
    have QO : Hid (OnlyB b w (fclSt v2 q0 y)) := R2.out.only.fclSt R2.out.ge y
    obtain ⟨k0, k1, k2, k3, k4, k5⟩ := X2.out.box.c
    obtain ⟨r0, r1, r2, r3, r4, r5⟩ := R2.out.box.c
    have f0 := R2.out.box.fr 0
    have f1 := R2.out.box.fr 1
    have f2 := R2.out.box.fr 2
    have f3 := R2.out.box.fr 3
    have f4 := R2.out.box.fr 4
    have f5 := R2.out.box.fr 5
    clear X2 R2
    go_wp2
    exact ret_cell (b := q0) (v := .agg #[.int .i64 y.k, .int .i64 y.a, .int .i64 y.n, .string y.p, .string y.o, .string y.d]) Tryz.results21 rfl X3.out.load ⟨⟨y, rfl, HY.out⟩, QS.out, QO.out⟩
set_option maxRecDepth 100000 in
theorem fileCallOf_ex (a : Option Addr) (len cap : Nat) (z : Nat → Nat) (hz : ∀ i, z i < 256) (hl : len ≤ maxLen) (w : World) (hc : Code8 w a len z) :
    Calls Tryz.prog 6 #[.slice a len cap] w fun e w' => (∃ x : Fcl, e = .returned (.agg #[.int .i64 x.k, .int .i64 x.a, .int .i64 x.n, .string x.p, .string x.o, .string x.d]) ∧ FclD x) ∧ Below w.heap.size w w' := by
  have W1 : Below w.heap.size w (w.alloc (.cells #[.int .i64 0, .int .i64 0, .int .i64 0, .string ⟨#[]⟩, .string ⟨#[]⟩, .string ⟨#[]⟩] 26)) := (Below.refl _ _).alloc (Nat.le_refl _) _
  have B1 : Hid (Below w.heap.size w (w.alloc (.cells #[.int .i64 0, .int .i64 0, .int .i64 0, .string ⟨#[]⟩, .string ⟨#[]⟩, .string ⟨#[]⟩] 26))) := W1
  have HC : Hid (Code8 (w.alloc (.cells #[.int .i64 0, .int .i64 0, .int .i64 0, .string ⟨#[]⟩, .string ⟨#[]⟩, .string ⟨#[]⟩] 26)) a len z) := hc.below W1
  have R0 : Hid (FclB (w.alloc (.cells #[.int .i64 0, .int .i64 0, .int .i64 0, .string ⟨#[]⟩, .string ⟨#[]⟩, .string ⟨#[]⟩] 26)) w.heap.size fclZ) := FclB.madeOf (x := fclZ) rfl
  have HLT : Hid (∀ x, 0 < len → a = some x → x.block < w.heap.size) := fun x h0 hx => hc.lt x h0 hx
  clear hc W1
  go_enter Tryz.func6, Tryz.ntmps6
  go_wp2_with fail
  generalize (w.alloc (.cells #[.int .i64 0, .int .i64 0, .int .i64 0, .string ⟨#[]⟩, .string ⟨#[]⟩, .string ⟨#[]⟩] 26)) = v0 at *
  obtain ⟨q0, hq0⟩ : ∃ x, x = w.heap.size := ⟨_, rfl⟩
  rw [← hq0] at R0 ⊢
  have HQ : Hid (w.heap.size ≤ q0) := Nat.le_of_eq hq0.symm
  clear hq0
  refine (source_any a len cap hl v0).mono ?_
  rintro e w1 ⟨rfl, hs, hb⟩
  have FC : Hid (Calls Tryz.prog 21 #[.pointer (some ⟨v0.heap.size, 0, none⟩)] w1 fun e w' => (∃ x : Fcl, e = .returned (.agg #[.int .i64 x.k, .int .i64 x.a, .int .i64 x.n, .string x.p, .string x.o, .string x.d]) ∧ FclD x) ∧ SrcA w' v0.heap.size a len cap (0 + 10) ∧ OnlyB v0.heap.size w1 w') := fileCall_ex v0.heap.size a len cap 0 z hz (by omega) hl (fun x h0 hx => by have := HLT.out x h0 hx; have := B1.out.size; omega) w1 ⟨0, len % 1000, by omega, by omega, hs⟩ (HC.out.below hb)
  have HB : Hid (Below v0.heap.size v0 w1) := hb
  have HNE : Hid (q0 ≠ v0.heap.size) := Nat.ne_of_lt R0.out.lt
  replace R0 : Hid (FclB w1 q0 fclZ) := R0.out.below hb
  clear hs hb hz hl
  go_wp2_with fail
  refine FC.out.mono ?_
  rintro e w2 ⟨⟨y, rfl, hy⟩, _, ho⟩
  have HY : Hid (FclD y) := hy
  have R2 : Hid (FclB w2 q0 fclZ) := R0.out.onlyB ho HNE.out
  have HB2 : Below v0.heap.size v0 w2 := HB.out.trans (ho.toBelow (Nat.le_refl _) HB.out.size)
  have X3 : Hid (FclB (fclSt w2 q0 y) q0 y) := R2.out.st y
  have B3 : Hid (Below w.heap.size w (fclSt w2 q0 y)) := fclSt_below (B1.out.trans (HB2.mono B1.out.size)) HQ.out y
  obtain ⟨r0, r1, r2, r3, r4, r5⟩ := R2.out.c
  have f0 := R2.out.fr 0
  have f1 := R2.out.fr 1
  have f2 := R2.out.fr 2
  have f3 := R2.out.fr 3
  have f4 := R2.out.fr 4
  have f5 := R2.out.fr 5
  clear R2 R0 hy ho HB2 FC HB HNE HC B1 HLT
  go_wp2
  exact ret_cell (b := q0) (v := .agg #[.int .i64 y.k, .int .i64 y.a, .int .i64 y.n, .string y.p, .string y.o, .string y.d]) Tryz.results6 rfl X3.out.load ⟨⟨y, rfl, HY.out⟩, B3.out⟩
end Go.Proofs.YtgcdoabcopihlaaGreat
