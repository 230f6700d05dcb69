/-
  Drawn leaves: root, leaf, leaves of the source; LeavesOf, LeafOf; a text hashed by the model, nil too.
-/
import Derived.Test.YtpljdlgjeeikkaaDoorSrcL
import Derived.Test.YtpljdlgjeeikkaaDoorAtIs
import Derived.Test.YtpljdlgjeeikkaaDoorHashS
import Derived.Test.YtpljdlgjeeikkaaDoorHashN
import Derived.Test.YtpljdlgjeeikkaaDoorRowLf
import Derived.Test.YtpljdlgjeeikkaaDoorLfOk
namespace Go.Proofs.YtpljdlgjeeikkaaDoor
open Go.ChangeShapes Go.WideShapes Go.ChangeAt Go.RowKit
set_option linter.unusedVariables false
/-- The source has drawn A bytes at most. -/
def SrcT (w : World) (b : Nat) (a : Option Addr) (len cap A : Nat) : Prop := ∃ at_ seed, at_ ≤ A ∧ seed < 2147483648 ∧ Src w b a len cap at_ seed
theorem SrcT.lt {w : World} {b : Nat} {a : Option Addr} {len cap A : Nat} (h : SrcT w b a len cap A) : b < w.heap.size := by
  obtain ⟨_, _, _, _, h⟩ := h
  exact h.lt
theorem SrcT.below {w w' : World} {b : Nat} {a : Option Addr} {len cap A : Nat} (h : SrcT w b a len cap A) (hb : Below w.heap.size w w') : SrcT w' b a len cap A := by
  obtain ⟨x, y, h1, h2, h3⟩ := h
  exact ⟨x, y, h1, h2, h3.below hb⟩
theorem SrcT.ofBlock {w w' : World} {b : Nat} {a : Option Addr} {len cap A : Nat} (h : SrcT w b a len cap A) (e : w'.heap[b]? = w.heap[b]?) : SrcT w' b a len cap A := by
  obtain ⟨x, y, h1, h2, h3⟩ := h
  exact ⟨x, y, h1, h2, ⟨by rw [cellE e]; exact h3.code, by rw [cellE e]; exact h3.at1, by rw [cellE e]; exact h3.seed2, by rw [frozenE e]; exact h3.free1, by rw [frozenE e]; exact h3.free2⟩⟩
/-- What is known of the bytes behind a source: below B nothing changes, and the source lies above. -/
structure Cd (w : World) (B b : Nat) (a : Option Addr) (len : Nat) (z : Nat → Nat) : Prop where
  hz : ∀ i, z i < 256
  hl : len ≤ maxLen
  hb : B ≤ b
  hw : B ≤ w.heap.size
  hc : Code8 w a len z
  hk : ∀ x, 0 < len → a = some x → x.block < B
theorem Cd.sep {w : World} {B b : Nat} {a : Option Addr} {len : Nat} {z : Nat → Nat} (h : Cd w B b a len z) : ∀ x, 0 < len → a = some x → x.block ≠ b := fun x h1 h2 => by have := h.hk x h1 h2; have := h.hb; omega
theorem Cd.step {w w' : World} {B b : Nat} {a : Option Addr} {len : Nat} {z : Nat → Nat} (h : Cd w B b a len z) (hb : Below B w w') : Cd w' B b a len z :=
  ⟨h.hz, h.hl, h.hb, Nat.le_trans h.hw hb.size, fun i hi => by
    obtain ⟨cb, off, e, hc⟩ := h.hc i hi
    exact ⟨cb, off, e, by rw [hb.cell (p := ⟨cb, off + i, none⟩) (h.hk ⟨cb, off, none⟩ (by omega) e)]; exact hc⟩, h.hk⟩
theorem Cd.only {w w' : World} {B b : Nat} {a : Option Addr} {len : Nat} {z : Nat → Nat} (h : Cd w B b a len z) (ho : OnlyB b w w') : Cd w' B b a len z := h.step (ho.toBelow h.hb h.hw)
theorem next_t (n : Nat) (hn : 2 ≤ n) (hn' : n ≤ 256) (B b : Nat) (a : Option Addr) (len cap A : Nat) (z : Nat → Nat) (hA : A ≤ 100000) (w : World) (h : SrcT w b a len cap A) (hc : Cd w B b a len z) :
    Calls Tryd.prog 41 #[.pointer (some ⟨b, 0, none⟩), .int .i64 (n : Int)] w fun e w' => (∃ r : Nat, r < n ∧ e = .returned (.int .i64 (r : Int))) ∧ SrcT w' b a len cap (A + 1) ∧ OnlyB b w w' := by
  obtain ⟨x, y, h1, h2, h3⟩ := h
  refine (next_any n hn hn' b a len cap x y z hc.hz (by omega) h2 hc.hl hc.sep w h3 hc.hc).mono ?_
  rintro e w' ⟨he, hs, ho⟩
  exact ⟨⟨_, Nat.mod_lt _ (by omega), he⟩, ⟨x + 1, _, by omega, (drawB_lt hc.hz h2).2, hs⟩, ho⟩
/-- A text of 32 bytes is handed back. -/
def Ret32 (e : Ending) : Prop := ∃ h : ByteArray, h.size = 32 ∧ e = .returned (.string h)
set_option maxRecDepth 100000 in
set_option maxHeartbeats 1000000 in
theorem root_t (B b : Nat) (a : Option Addr) (len cap A : Nat) (z : Nat → Nat) (hA : A ≤ 100000) (w : World) (h : SrcT w b a len cap A) (hc : Cd w B b a len z) :
    Calls Tryd.prog 42 #[.pointer (some ⟨b, 0, none⟩)] w fun e w' => Ret32 e ∧ SrcT w' b a len cap (A + 1) ∧ OnlyB b w w' := by
  have NX : Hid (Calls Tryd.prog 41 #[.pointer (some ⟨b, 0, none⟩), .int .i64 5] w fun e w' => (∃ r : Nat, r < 5 ∧ e = .returned (.int .i64 (r : Int))) ∧ SrcT w' b a len cap (A + 1) ∧ OnlyB b w w') := next_t 5 (by omega) (by omega) B b a len cap A z hA w h hc
  have LH : Hid (∀ (x g : Nat) (w : World), x < 256 → Code8 w (some ⟨g, 0, none⟩) 1 (fun _ => x) → Calls Tryd.prog 35 #[.slice (some ⟨g, 0, none⟩) 1 1] w fun e w' => Ret32 e ∧ Below w.heap.size w w') := fun x g w hx h => (l03Hash_any g 0 1 1 (fun _ => x) (fun _ => hx) (by omega) w h).mono fun _ _ q => ⟨⟨_, hashS_size _ _, q.1⟩, q.2⟩
  clear h hc
  go_enter Tryd.func42, Tryd.ntmps42
  go_wp2_with fail
  refine NX.out.mono ?_
  rintro e w1 ⟨⟨r, hr, rfl⟩, hs, ho⟩
  have HS : Hid (SrcT w1 b a len cap (A + 1)) := hs
  have HO : Hid (OnlyB b w w1) := ho
  have e1 : (r : Int) % 256 = (r : Int) := by omega
  have W2 : Hid (Below w1.heap.size w1 (w1.alloc (.cells #[.int .u8 (r : Int)] 5))) := (Below.refl _ _).alloc (Nat.le_refl _) _
  have K2 : Hid (Code8 (w1.alloc (.cells #[.int .u8 (r : Int)] 5)) (some ⟨w1.heap.size, 0, none⟩) 1 (fun _ => r)) := code8_of (fun i hi => by
    obtain rfl : i = 0 := by omega
    simp)
  have HR : Hid (r < 256) := by show _ < _; omega
  clear hs ho NX hr
  go_wp2_with fail
  generalize (w1.alloc (.cells #[.int .u8 (r : Int)] 5)) = w2 at *
  refine (LH.out r _ _ HR.out K2.out).mono ?_
  rintro e w3 ⟨⟨hh, h32, rfl⟩, hb⟩
  have Q : Hid (Ret32 (.returned (.string hh)) ∧ SrcT w3 b a len cap (A + 1) ∧ OnlyB b w w3) := ⟨⟨hh, h32, rfl⟩, (HS.out.below W2.out).below hb, (HO.out.below W2.out).below hb⟩
  clear hb HS HO W2 K2 LH HR e1 h32
  go_wp2
  go_ret
  exact Q.out
/-- A right leaf of a low version is handed back. -/
def RetLeaf (e : Ending) : Prop := ∃ x : Lf, x.Ok ∧ x.v ≤ 8 ∧ e = .returned (.agg #[.int .i64 x.v, .string x.h])
theorem Box2.loadlf {w : World} {b : Nat} {x y : Value} (h : Box2 w b 26 x y) : (loadVar 26 ⟨b, 0, none⟩).run Tryd.prog w = .ok (.agg #[x, y]) w := by
  have h0 := h.c0
  have h1 := h.c1
  go_simp
theorem OnlyB.setNew {b p : Nat} {w w' : World} (h : OnlyB b w w') (hp : w.heap.size ≤ p) (i : Nat) (v : Value) : OnlyB b w (w'.setCell ⟨p, i, none⟩ v) := ⟨h.os, h.tape, h.output, by simpa using h.size, fun k hk hn => (Below.heap_setCell w' ⟨p, i, none⟩ v k (by dsimp only; omega)).trans (h.block k hk hn)⟩
theorem OnlyB.allocS {b : Nat} {w w' : World} (h : OnlyB b w w') (o : Obj) : OnlyB b w (w'.alloc o) := h.below ((Below.refl _ _).alloc (Nat.le_refl _) o)
set_option maxRecDepth 100000 in
set_option maxHeartbeats 1000000 in
theorem leaf_t (B b : Nat) (a : Option Addr) (len cap A : Nat) (z : Nat → Nat) (hA : A ≤ 10000) (w : World) (h : SrcT w b a len cap A) (hc : Cd w B b a len z) :
    Calls Tryd.prog 20 #[.pointer (some ⟨b, 0, none⟩)] w fun e w' => RetLeaf e ∧ SrcT w' b a len cap (A + 2) ∧ OnlyB b w w' := by
  have hbw := h.lt
  have W1 : Below w.heap.size w (w.alloc (.cells #[.int .i64 0, .string ⟨#[]⟩] 26)) := (Below.refl _ _).alloc (Nat.le_refl _) _
  have X1 : Hid (Box2 (w.alloc (.cells #[.int .i64 0, .string ⟨#[]⟩] 26)) w.heap.size 26 (.int .i64 0) (.string ⟨#[]⟩)) := Box2.made _ _ _ _
  have HS : Hid (SrcT (w.alloc (.cells #[.int .i64 0, .string ⟨#[]⟩] 26)) b a len cap A) := h.below W1
  have HC : Hid (Cd (w.alloc (.cells #[.int .i64 0, .string ⟨#[]⟩] 26)) B b a len z) := hc.step (W1.mono hc.hw)
  have HO : Hid (OnlyB b w (w.alloc (.cells #[.int .i64 0, .string ⟨#[]⟩] 26))) := (OnlyB.refl _ _).below W1
  have NX : Hid (∀ w : World, SrcT w b a len cap A → Cd w B b a len z → Calls Tryd.prog 41 #[.pointer (some ⟨b, 0, none⟩), .int .i64 9] w fun e w' => (∃ r : Nat, r < 9 ∧ e = .returned (.int .i64 (r : Int))) ∧ SrcT w' b a len cap (A + 1) ∧ OnlyB b w w') := fun w h hc => next_t 9 (by omega) (by omega) B b a len cap A z (by omega) w h hc
  have RX : Hid (∀ w : World, SrcT w b a len cap (A + 1) → Cd w B b a len z → Calls Tryd.prog 42 #[.pointer (some ⟨b, 0, none⟩)] w fun e w' => Ret32 e ∧ SrcT w' b a len cap (A + 1 + 1) ∧ OnlyB b w w') := fun w h hc => root_t B b a len cap (A + 1) z (by omega) w h hc
  have HNE : Hid (w.heap.size ≠ b) := by show _ ≠ _; omega
  clear h hc W1
  go_enter Tryd.func20, Tryd.ntmps20
  go_wp2_with fail
  generalize (w.alloc (.cells #[.int .i64 0, .string ⟨#[]⟩] 26)) = v0 at *
  obtain ⟨pb, hpb⟩ : ∃ x, x = w.heap.size := ⟨_, rfl⟩
  have HPB : Hid (w.heap.size ≤ pb) := by show _ ≤ _; omega
  rw [← hpb] at X1 HNE ⊢
  clear hpb
  refine (NX.out _ HS.out HC.out).mono ?_
  rintro e w1 ⟨⟨r, hr, rfl⟩, hs, ho⟩
  replace HS : Hid (SrcT w1 b a len cap (A + 1)) := hs
  replace HC : Hid (Cd w1 B b a len z) := HC.out.only ho
  replace HO : Hid (OnlyB b w w1) := HO.out.trans ho
  replace X1 : Hid (Box2 w1 pb 26 (.int .i64 0) (.string ⟨#[]⟩)) := X1.out.onlyB ho HNE.out
  have HR : Hid (r < 9) := hr
  clear hs ho NX hr
  go_wp2_with fail
  refine (RX.out _ HS.out HC.out).mono ?_
  rintro e w2 ⟨⟨hh, h32, rfl⟩, hs, ho⟩
  have HO2 : Hid (OnlyB b w w2) := HO.out.trans ho
  have HS2 : Hid (SrcT w2 b a len cap (A + 1 + 1)) := hs
  have X2 : Hid (Box2 w2 pb 26 (.int .i64 0) (.string ⟨#[]⟩)) := X1.out.onlyB ho HNE.out
  have QL : Hid (RetLeaf (.returned (.agg #[.int .i64 (r : Int), .string hh]))) := ⟨⟨r, hh⟩, ⟨⟨by dsimp only; omega, by have := HR.out; dsimp only; omega⟩, h32⟩, by have := HR.out; dsimp only; omega, rfl⟩
  have X3 : Hid (Box2 ((w2.setCell ⟨pb, 0, none⟩ (.int .i64 (r : Int))).setCell ⟨pb, 1, none⟩ (.string hh)) pb 26 (.int .i64 (r : Int)) (.string hh)) := (X2.out.set0 _).set1 _
  have QS : Hid (SrcT ((w2.setCell ⟨pb, 0, none⟩ (.int .i64 (r : Int))).setCell ⟨pb, 1, none⟩ (.string hh)) b a len cap (A + 2)) := (HS2.out.ofBlock (w' := w2.setCell ⟨pb, 0, none⟩ (.int .i64 (r : Int))) (Below.heap_setCell w2 ⟨pb, 0, none⟩ _ b HNE.out.symm)).ofBlock (Below.heap_setCell _ ⟨pb, 1, none⟩ _ b HNE.out.symm)
  have QO : Hid (OnlyB b w ((w2.setCell ⟨pb, 0, none⟩ (.int .i64 (r : Int))).setCell ⟨pb, 1, none⟩ (.string hh))) := (HO2.out.setNew HPB.out 0 _).setNew HPB.out 1 _
  have k0 := X2.out.c0
  have k1 := X2.out.c1
  have f0 := X2.out.fr 0
  have f1 := X2.out.fr 1
  clear hs ho RX HS HC HO X1 h32 HR HS2 HO2 X2 HNE HPB
  go_wp2
  exact ret_cell (b := pb) (v := .agg #[.int .i64 (r : Int), .string hh]) Tryd.results20 rfl X3.out.loadlf ⟨QL.out, QS.out, QO.out⟩
/-- Right leaves of low versions. -/
def Low (m : Nat) (LF : Nat → Lf) : Prop := ∀ i, i < m → (LF i).Ok ∧ (LF i).v ≤ 8
theorem Low.snoc {m : Nat} {LF : Nat → Lf} {x : Lf} (h : Low m LF) (hx : x.Ok ∧ x.v ≤ 8) : Low (m + 1) (updE LF m x) := fun i hi => by
  rcases Nat.lt_or_ge i m with q | q
  · rw [updE_ne _ _ (by omega)]; exact h i q
  · obtain rfl : i = m := by omega
    rw [updE_eq]; exact hx
/-- Leaves of the call's own are handed back. -/
def RetLvs (B : Nat) (e : Ending) (w : World) : Prop := ∃ (m : Nat) (LF : Nat → Lf) (a : Option Addr) (c : Nat), m ≤ 11 ∧ Low m LF ∧ e = .returned (.slice a m c) ∧ EO w B 26 2 (.slice a m c) m (lfF LF)
set_option maxRecDepth 100000 in
set_option maxHeartbeats 2000000 in
theorem leaves_t (B b : Nat) (a : Option Addr) (len cap : Nat) (z : Nat → Nat) (w : World) (h : SrcT w b a len cap 0) (hc : Cd w B b a len z) :
    Calls Tryd.prog 19 #[.pointer (some ⟨b, 0, none⟩)] w fun e w' => RetLvs w.heap.size e w' ∧ OnlyB b w w' := by
  have hbw := h.lt
  have W1 : Below w.heap.size w (w.alloc (.cells #[] 26)) := (Below.refl _ _).alloc (Nat.le_refl _) _
  have HS : Hid (SrcT (w.alloc (.cells #[] 26)) b a len cap 0) := h.below W1
  have HC : Hid (Cd (w.alloc (.cells #[] 26)) B b a len z) := hc.step (W1.mono hc.hw)
  have HO : Hid (OnlyB b w (w.alloc (.cells #[] 26))) := (OnlyB.refl _ _).below W1
  have RO : Hid (EO (w.alloc (.cells #[] 26)) w.heap.size 26 2 (.slice (some ⟨w.heap.size, 0, none⟩) 0 0) 0 (lfF (fun _ => lfZ))) := EO.lit w _ _ _ (Nat.le_refl _) _
  have NX : Hid (∀ w : World, SrcT w b a len cap 0 → Cd w B b a len z → Calls Tryd.prog 41 #[.pointer (some ⟨b, 0, none⟩), .int .i64 12] w fun e w' => (∃ r : Nat, r < 12 ∧ e = .returned (.int .i64 (r : Int))) ∧ SrcT w' b a len cap 1 ∧ OnlyB b w w') := fun w h hc => next_t 12 (by omega) (by omega) B b a len cap 0 z (by omega) w h hc
  have LX : Hid (∀ (A : Nat) (w : World), A ≤ 1000 → SrcT w b a len cap A → Cd w B b a len z → Calls Tryd.prog 20 #[.pointer (some ⟨b, 0, none⟩)] w fun e w' => RetLeaf e ∧ SrcT w' b a len cap (A + 2) ∧ OnlyB b w w') := fun A w hA h hc => leaf_t B b a len cap A z (by omega) w h hc
  have HBW : Hid (b < w.heap.size) := hbw
  clear h hc W1 hbw
  go_enter Tryd.func19, Tryd.ntmps19
  go_wp2_with fail
  generalize hw0 : (w.alloc (.cells #[] 26)) = v0 at *
  clear hw0
  refine (NX.out _ HS.out HC.out).mono ?_
  rintro e w1 ⟨⟨r, hr, rfl⟩, hs, ho⟩
  have RO1 : Hid (EO w1 w.heap.size 26 2 (.slice (some ⟨w.heap.size, 0, none⟩) 0 0) 0 (lfF (fun _ => lfZ))) := RO.out.onlyB ho HBW.out
  have HS1 : Hid (SrcT w1 b a len cap 1) := hs
  have HC1 : Hid (Cd w1 B b a len z) := HC.out.only ho
  have HO1 : Hid (OnlyB b w w1) := HO.out.trans ho
  clear hs ho NX RO HS HC HO
  go_wp2
  go_loopw [3, 4] (fun v i wr => ∃ (q : Nat) (LF : Nat → Lf), q ≤ r ∧ i = .int .i64 ((r - q : Nat) : Int) ∧ Low q LF ∧ EO wr w.heap.size 26 2 v q (lfF LF) ∧ SrcT wr b a len cap (1 + 2 * q) ∧ Cd wr B b a len z ∧ OnlyB b w wr) (fun _ i _ => (intOf i).toNat)
  case atStart => exact ⟨0, fun _ => lfZ, by omega, rfl, fun i hi => absurd hi (by omega), RO1.out, HS1.out, HC1.out, HO1.out⟩
  case round =>
    clear RO1 HS1 HC1 HO1
    obtain ⟨q, LF, hq, rfl, hlow, ho, hs, hc, hon⟩ := hrel
    obtain ⟨pa, pc, hv⟩ := ho.form
    subst hv
    have RO : Hid (EO wr w.heap.size 26 2 (.slice pa q pc) q (lfF LF)) := ho
    have HS : Hid (SrcT wr b a len cap (1 + 2 * q)) := hs
    have HC : Hid (Cd wr B b a len z) := hc
    have HO : Hid (OnlyB b w wr) := hon
    have HL : Hid (Low q LF) := hlow
    clear ho hs hc hon hlow
    by_cases hlt : q < r
    · have e1 : (0 : Int) < ((r - q : Nat) : Int) := by omega
      have e2 : ((r - q : Nat) : Int) - 1 = ((r - (q + 1) : Nat) : Int) := by omega
      go_wp2_with fail
      refine (LX.out (1 + 2 * q) _ (by omega) HS.out HC.out).mono ?_
      rintro e w2 ⟨⟨x, hx, hx8, rfl⟩, hs, ho⟩
      have hA : Below w2.heap.size w2 (w2.alloc (.cells #[.int .i64 x.v, .string x.h] 26)) := (Below.refl _ _).alloc (Nat.le_refl _) _
      have BL := Box2.made w2 26 (.int .i64 x.v) (.string x.h)
      have ON2 := HO.out.trans ho
      have R2 := RO.out.onlyB ho HBW.out
      obtain ⟨v9, w4, hr9, ho9, hg, -⟩ := appLf (w2.alloc (.cells #[.int .i64 x.v, .string x.h] 26)) w.heap.size (.slice pa q pc) q w2.heap.size LF x (Nat.le_trans ON2.size hA.size) (by omega) (R2.below hA) (fun j hj => by
        rcases (show j = 0 ∨ j = 1 by omega) with rfl | rfl
        · exact BL.c0
        · exact BL.c1)
      have BW : Below w.heap.size (w2.alloc (.cells #[.int .i64 x.v, .string x.h] 26)) w4 := (Below.refl _ _).grown hg (Nat.le_trans ON2.size hA.size) (fun y hy => (R2.ge y hy).1)
      have HS4 : Hid (SrcT w4 b a len cap (1 + 2 * (q + 1))) := by
        show SrcT w4 b a len cap (1 + 2 * (q + 1))
        have h1 : SrcT (w2.alloc (.cells #[.int .i64 x.v, .string x.h] 26)) b a len cap (1 + 2 * q + 2) := hs.below hA
        have h2 := h1.ofBlock (BW.block b HBW.out)
        rwa [show 1 + 2 * q + 2 = 1 + 2 * (q + 1) from by omega] at h2
      have HC4 : Hid (Cd w4 B b a len z) := ((HC.out.only ho).step (hA.mono (HC.out.only ho).hw)).step (BW.mono (by have := HC.out.hb; have := HBW.out; omega))
      have HO4 : Hid (OnlyB b w w4) := by
        have h1 : OnlyB b w (w2.alloc (.cells #[.int .i64 x.v, .string x.h] 26)) := ON2.below hA
        exact h1.belowAt BW
      have HL4 : Hid (Low (q + 1) (updE LF q x)) := HL.out.snoc ⟨hx, hx8⟩
      have RO4 : Hid (EO w4 w.heap.size 26 2 v9 (q + 1) (lfF (updE LF q x))) := ho9
      have HAP : Hid _ := hr9
      clear hA BL ON2 R2 hr9 ho9 hg BW hs ho RO HS HC HO HL hx hx8
      go_wp2_with (at_builtin; refine Lib.wpList_append_run _ rfl (.tmp 12) (.tmp 15) _ _ rfl _ _ rfl rfl _ _ (HAP.out _) ?_)
      go_roundw
      case rel => exact ⟨q + 1, updE LF q x, by omega, by go_num, HL4.out, RO4.out, HS4.out, HC4.out, HO4.out⟩
      case measure => simp [intOf]; omega
    · obtain rfl : q = r := by omega
      have e1 : ¬ (0 : Int) < ((q - q : Nat) : Int) := by omega
      have Q : Hid (RetLvs w.heap.size (.returned (.slice pa q pc)) wr) := ⟨q, LF, pa, pc, by omega, HL.out, rfl, RO.out⟩
      clear RO HS HC HL LX
      go_wp2
      go_ret
      exact ⟨Q.out, HO.out⟩
theorem cd_of {w w' : World} {b : Nat} {a : Option Addr} {len : Nat} {z : Nat → Nat} (hz : ∀ i, z i < 256) (hl : len ≤ maxLen) (h : Code8 w a len z) (hb : Below w.heap.size w w') (hB : w.heap.size ≤ b) : Cd w' w.heap.size b a len z :=
  ⟨hz, hl, hB, hb.size, h.below hb, fun x h1 h2 => by
    obtain ⟨cb, off, e, hc⟩ := h 0 h1
    rw [e] at h2
    cases h2
    exact strBlock hc⟩
set_option maxRecDepth 100000 in
theorem leavesOf_t (a : Option Addr) (len cap : Nat) (z : Nat → Nat) (hz : ∀ i, z i < 256) (hl : len ≤ maxLen) (w : World) (h : Code8 w a len z) :
    Calls Tryd.prog 4 #[.slice a len cap] w fun e w' => RetLvs w.heap.size e w' ∧ Below w.heap.size w w' := by
  have SC : Hid (Calls Tryd.prog 18 #[.slice a len cap] w fun e w' => e = .returned (.pointer (some ⟨w.heap.size, 0, none⟩)) ∧ Src w' w.heap.size a len cap 0 (len % 1000) ∧ Below w.heap.size w w') := source_any a len cap hl w
  have LV : Hid (∀ w' : World, SrcT w' w.heap.size a len cap 0 → Cd w' w.heap.size w.heap.size a len z → Calls Tryd.prog 19 #[.pointer (some ⟨w.heap.size, 0, none⟩)] w' fun e w'' => RetLvs w'.heap.size e w'' ∧ OnlyB w.heap.size w' w'') := fun w' h hc => leaves_t _ _ a len cap z w' h hc
  have HC : Hid (Code8 w a len z) := h
  have HL : Hid (len ≤ maxLen ∧ ∀ i, z i < 256) := ⟨hl, hz⟩
  clear h hl hz
  go_enter Tryd.func4, Tryd.ntmps4
  go_wp2_with fail
  refine SC.out.mono ?_
  rintro e w1 ⟨rfl, hs, hb⟩
  have HS : Hid (SrcT w1 w.heap.size a len cap 0) := ⟨0, len % 1000, by omega, by omega, hs⟩
  have HD : Hid (Cd w1 w.heap.size w.heap.size a len z) := cd_of HL.out.2 HL.out.1 HC.out hb (Nat.le_refl _)
  have B1 : Hid (Below w.heap.size w w1) := hb
  clear hs hb SC HC HL
  go_wp2_with fail
  refine (LV.out _ HS.out HD.out).mono ?_
  rintro e w2 ⟨⟨m, LF, pa, pc, hm, hlow, rfl, ho⟩, hon⟩
  have Q : Hid (RetLvs w.heap.size (.returned (.slice pa m pc)) w2 ∧ Below w.heap.size w w2) := ⟨⟨m, LF, pa, pc, hm, hlow, rfl, ho.mono B1.out.size⟩, B1.out.trans (hon.toBelow (Nat.le_refl _) B1.out.size)⟩
  clear hon ho LV HS HD B1 hlow hm
  go_wp2
  go_ret
  exact Q.out
set_option maxRecDepth 100000 in
theorem leafOf_t (a : Option Addr) (len cap : Nat) (z : Nat → Nat) (hz : ∀ i, z i < 256) (hl : len ≤ maxLen) (w : World) (h : Code8 w a len z) :
    Calls Tryd.prog 5 #[.slice a len cap] w fun e w' => RetLeaf e ∧ Below w.heap.size w w' := by
  have SC : Hid (∀ w : World, Calls Tryd.prog 18 #[.slice a len cap] w fun e w' => e = .returned (.pointer (some ⟨w.heap.size, 0, none⟩)) ∧ Src w' w.heap.size a len cap 0 (len % 1000) ∧ Below w.heap.size w w') := fun w => source_any a len cap hl w
  have LV : Hid (∀ (B b : Nat) (w' : World), SrcT w' b a len cap 0 → Cd w' B b a len z → Calls Tryd.prog 20 #[.pointer (some ⟨b, 0, none⟩)] w' fun e w'' => RetLeaf e ∧ SrcT w'' b a len cap (0 + 2) ∧ OnlyB b w' w'') := fun B b w' h hc => leaf_t B b a len cap 0 z (by omega) w' h hc
  have HC : Hid (Code8 w a len z) := h
  have HL : Hid (len ≤ maxLen ∧ ∀ i, z i < 256) := ⟨hl, hz⟩
  have W1 : Hid (Below w.heap.size w (w.alloc (.cells #[.int .i64 0, .string ⟨#[]⟩] 26))) := (Below.refl _ _).alloc (Nat.le_refl _) _
  have X1 : Hid (Box2 (w.alloc (.cells #[.int .i64 0, .string ⟨#[]⟩] 26)) w.heap.size 26 (.int .i64 0) (.string ⟨#[]⟩)) := Box2.made _ _ _ _
  have hs0 : w.heap.size < (w.alloc (.cells #[.int .i64 0, .string ⟨#[]⟩] 26)).heap.size := by simp
  have HS0 : Hid _ := hs0
  clear h hl hz hs0
  go_enter Tryd.func5, Tryd.ntmps5
  go_wp2_with fail
  generalize (w.alloc (.cells #[.int .i64 0, .string ⟨#[]⟩] 26)) = v0 at *
  obtain ⟨pb, hpb⟩ : ∃ x, x = w.heap.size := ⟨_, rfl⟩
  have HPB : Hid (w.heap.size = pb) := hpb.symm
  rw [← hpb] at X1 ⊢
  clear hpb
  refine (SC.out _).mono ?_
  rintro e w1 ⟨rfl, hs, hb⟩
  have HS : Hid (SrcT w1 v0.heap.size a len cap 0) := ⟨0, len % 1000, by omega, by omega, hs⟩
  have B1 : Hid (Below w.heap.size w w1) := W1.out.trans (hb.mono W1.out.size)
  have HD : Hid (Cd w1 w.heap.size v0.heap.size a len z) := cd_of HL.out.2 HL.out.1 HC.out B1.out W1.out.size
  have X2 : Hid (Box2 w1 pb 26 (.int .i64 0) (.string ⟨#[]⟩)) := X1.out.below hb
  have HNE : Hid (pb ≠ v0.heap.size) := by show _ ≠ _; have := HS0.out; rw [← HPB.out]; omega
  have HV : Hid (w.heap.size ≤ v0.heap.size) := W1.out.size
  clear hs hb SC HC HL X1 W1 HS0
  generalize v0.heap.size = sb at *
  go_wp2_with fail
  refine (LV.out _ _ _ HS.out HD.out).mono ?_
  rintro e w2 ⟨⟨x, hx, hx8, rfl⟩, hs2, hon⟩
  have B2 : Below w.heap.size w w2 := B1.out.trans (hon.toBelow HV.out B1.out.size)
  have X3 : Box2 w2 pb 26 (.int .i64 0) (.string ⟨#[]⟩) := X2.out.onlyB hon HNE.out
  have X4 : Hid (Box2 ((w2.setCell ⟨pb, 0, none⟩ (.int .i64 x.v)).setCell ⟨pb, 1, none⟩ (.string x.h)) pb 26 (.int .i64 x.v) (.string x.h)) := (X3.set0 _).set1 _
  have QB : Hid (Below w.heap.size w ((w2.setCell ⟨pb, 0, none⟩ (.int .i64 x.v)).setCell ⟨pb, 1, none⟩ (.string x.h))) := (B2.setCell (by rw [HPB.out]; exact Nat.le_refl _) _).setCell (by rw [HPB.out]; exact Nat.le_refl _) _
  have QL : Hid (RetLeaf (.returned (.agg #[.int .i64 x.v, .string x.h]))) := ⟨x, hx, hx8, rfl⟩
  have k0 := X3.c0
  have k1 := X3.c1
  have f0 := X3.fr 0
  have f1 := X3.fr 1
  clear hs2 hon LV HS HD X2 HNE HV B1 B2 X3 HPB hx hx8
  go_wp2
  exact ret_cell (b := pb) (v := .agg #[.int .i64 x.v, .string x.h]) Tryd.results5 rfl X4.out.loadlf ⟨QL.out, QB.out⟩
set_option maxRecDepth 100000 in
/-- The model's hash of any bytes. -/
theorem specHash_t (a : Option Addr) (n c : Nat) (f : Nat → Nat) (hf : ∀ i, f i < 256) (hn : n ≤ 65536) (ha : a = none → c = 0) (w : World) (h : Code8 w a n f) :
    Calls Tryd.prog 14 #[.slice a n c] w fun e w' => Ret32 e ∧ Below w.heap.size w w' := by
  have e1 : ¬ (65536 : Int) < n := by omega
  have HA : Hid (Calls Tryd.prog 35 #[.slice a n c] w fun e w' => Ret32 e ∧ Below w.heap.size w w') := by
    show Calls _ _ _ _ _
    rcases Nat.eq_zero_or_pos n with h0 | h0
    · exact (l03Hash_nil a n c h0 ha f hf w).mono fun _ _ q => ⟨⟨_, hashS_size _ _, q.1⟩, q.2⟩
    · obtain ⟨b, o, rfl, _⟩ := h.opened h0
      exact (l03Hash_any b o n c f hf (by omega) w h).mono fun _ _ q => ⟨⟨_, hashS_size _ _, q.1⟩, q.2⟩
  clear h hf ha
  go_enter Tryd.func14, Tryd.ntmps14
  go_wp2_with fail
  refine HA.out.mono ?_
  rintro e w1 ⟨⟨hh, h32, rfl⟩, hb⟩
  have B1 : Hid (Ret32 (.returned (.string hh)) ∧ Below w.heap.size w w1) := ⟨⟨hh, h32, rfl⟩, hb⟩
  clear hb h32 HA
  go_wp2
  go_ret
  exact B1.out
/-- A place below n. -/
def AtT (n : Nat) (e : Ending) : Prop := ∃ r : Nat, r < n ∧ e = .returned (.int .i64 (r : Int))
theorem at_t (a : Option Addr) (len cap : Nat) (zs : List Int) (w : World) (hr : IsRow .u8 w a len cap zs) (i n : Nat) (hi' : i ≤ 100000) (hn : 1 ≤ n) (hn' : n ≤ 100000) :
    Calls Tryd.prog 6 #[.slice a len cap, .int .i64 (i : Int), .int .i64 (n : Int)] w fun e w' => AtT n e ∧ Below w.heap.size w w' := by
  by_cases h1 : n = 1
  · subst h1
    clear hr
    go_enter Tryd.func6, Tryd.ntmps6
    go_wp2
    go_ret
    exact ⟨⟨0, by omega, rfl⟩, Below.refl _ _⟩
  · exact (at_is a len cap zs w hr i n hi' (by omega) hn').mono fun e w' h => ⟨⟨_, atN_lt len zs i n (by omega), h.1⟩, by obtain ⟨q, rfl⟩ := h.2; exact ⟨rfl, rfl, rfl, Nat.le_refl _, fun _ _ => rfl⟩⟩
end Go.Proofs.YtpljdlgjeeikkaaDoor
