/-
  Texts of the proof, joined: DrawR, DrawR2.
-/
import Derived.Test.YtpngjkhncfbnpaaDoorU15
import Derived.Test.YtpngjkhncfbnpaaDoorU27
import Derived.Test.YtpngjkhncfbnpaaDoorU11
namespace Go.Proofs.YtpngjkhncfbnpaaDoor
open Go.ChangeShapes Go.WideShapes Go.ChangeAt Go.RowKit
set_option linter.unusedVariables false
def RqB (w : World) (p : Nat) (x : Rqst) : Prop := w.rowIs p 52 5 (rqV x)
theorem RqB.c {w : World} {p : Nat} {x : Rqst} (h : RqB w p x) : w.cell? ⟨p, 0, none⟩ = some (.int .i64 x.s) ∧ w.cell? ⟨p, 1, none⟩ = some (.int .i64 x.q) ∧ w.cell? ⟨p, 2, none⟩ = some (.int .i64 x.v) ∧ w.cell? ⟨p, 3, none⟩ = some (.int .i64 x.c) ∧ w.cell? ⟨p, 4, none⟩ = some (.string x.r) := ⟨World.rowIs.cell h (i := 0) (by omega), World.rowIs.cell h (i := 1) (by omega), World.rowIs.cell h (i := 2) (by omega), World.rowIs.cell h (i := 3) (by omega), World.rowIs.cell h (i := 4) (by omega)⟩
theorem RqB.fr {w : World} {p : Nat} {x : Rqst} (h : RqB w p x) (i : Nat) : w.frozen? ⟨p, i, none⟩ = false := World.rowIs.frozen h i
theorem RqB.ofBlock {w w' : World} {p : Nat} {x : Rqst} (h : RqB w p x) (e : w'.heap[p]? = w.heap[p]?) : RqB w' p x := World.rowIs.of_block h e
theorem RqB.lt {w : World} {p : Nat} {x : Rqst} (h : RqB w p x) : p < w.heap.size := World.rowIs.lt h
theorem RqB.onlyB {w w' : World} {p g : Nat} {x : Rqst} (h : RqB w p x) (ho : OnlyB g w w') (hne : p ≠ g) : RqB w' p x := h.ofBlock (ho.block p h.lt hne)
theorem RqB.made {w : World} {p : Nat} (hp : w.heap.size = p) : RqB (w.alloc (.cells #[.int .i64 0, .int .i64 0, .int .i64 0, .int .i64 0, .string ⟨#[]⟩] 52)) p rqZ := by
  subst hp
  exact World.rowIs_alloc w _ _ _ (fun i hi => by
    rcases (show i = 0 ∨ i = 1 ∨ i = 2 ∨ i = 3 ∨ i = 4 by simp at hi; omega) with rfl | rfl | rfl | rfl | rfl <;> rfl)
theorem RqB.madeOf {w : World} {p : Nat} {x : Rqst} (hp : w.heap.size = p) : RqB (w.alloc (.cells #[.int .i64 x.s, .int .i64 x.q, .int .i64 x.v, .int .i64 x.c, .string x.r] 52)) p x := by
  subst hp
  exact World.rowIs_alloc w _ _ _ (fun i hi => by
    rcases (show i = 0 ∨ i = 1 ∨ i = 2 ∨ i = 3 ∨ i = 4 by simp at hi; omega) with rfl | rfl | rfl | rfl | rfl <;> rfl)
def rqSt (w : World) (p : Nat) (x : Rqst) : World := ((((w.setCell ⟨p, 0, none⟩ (.int .i64 x.s)).setCell ⟨p, 1, none⟩ (.int .i64 x.q)).setCell ⟨p, 2, none⟩ (.int .i64 x.v)).setCell ⟨p, 3, none⟩ (.int .i64 x.c)).setCell ⟨p, 4, none⟩ (.string x.r)
theorem rqSt_block {w : World} {p b : Nat} {x : Rqst} (h : b ≠ p) : (rqSt w p x).heap[b]? = w.heap[b]? := by
  unfold rqSt
  rw [Below.heap_setCell _ ⟨p, 4, none⟩ _ b h, Below.heap_setCell _ ⟨p, 3, none⟩ _ b h, Below.heap_setCell _ ⟨p, 2, none⟩ _ b h, Below.heap_setCell _ ⟨p, 1, none⟩ _ b h, Below.heap_setCell _ ⟨p, 0, none⟩ _ b h]
theorem RqB.st {w : World} {p : Nat} {y : Rqst} (h : RqB w p y) (x : Rqst) : RqB (rqSt w p x) p x := by
  refine World.rowIs.congr (World.rowIs.set (World.rowIs.set (World.rowIs.set (World.rowIs.set (World.rowIs.set h 0 (.int .i64 x.s)) 1 (.int .i64 x.q)) 2 (.int .i64 x.v)) 3 (.int .i64 x.c)) 4 (.string x.r)) (fun i hi => ?_)
  rcases (show i = 0 ∨ i = 1 ∨ i = 2 ∨ i = 3 ∨ i = 4 by omega) with rfl | rfl | rfl | rfl | rfl <;> rfl
theorem OnlyB.rqSt {b p : Nat} {w w' : World} (h : OnlyB b w w') (hp : w.heap.size ≤ p) (x : Rqst) : OnlyB b w (rqSt w' p x) := ((((h.setNew hp 0 _).setNew hp 1 _).setNew hp 2 _).setNew hp 3 _).setNew hp 4 _
theorem RqB.load {w : World} {p : Nat} {x : Rqst} (h : RqB w p x) : (loadVar 52 ⟨p, 0, none⟩).run Tryd.prog w = .ok (.agg #[.int .i64 x.s, .int .i64 x.q, .int .i64 x.v, .int .i64 x.c, .string x.r]) w := by
  obtain ⟨h0, h1, h2, h3, h4⟩ := h.c
  go_simp
theorem chance_t (n : Nat) (hn : 2 ≤ n) (hn' : n ≤ 256) (B b : Nat) (a : Option Addr) (len cap A : Nat) (z : Nat → Nat) (hA : A ≤ 100000) (w : World) (h : SrcT w b a len cap A) (hc : Cd w B b a len z) :
    Calls Tryd.prog 85 #[.pointer (some ⟨b, 0, none⟩), .int .i64 (n : Int)] w fun e w' => (∃ r : Bool, e = .returned (.bool r)) ∧ SrcT w' b a len cap (A + 1) ∧ OnlyB b w w' := by
  have NX : Hid (Calls Tryd.prog 82 #[.pointer (some ⟨b, 0, none⟩), .int .i64 (n : Int)] w fun e w' => (∃ r : Nat, r < n ∧ e = .returned (.int .i64 (r : Int))) ∧ SrcT w' b a len cap (A + 1) ∧ OnlyB b w w') := next_t n hn hn' B b a len cap A z hA w h hc
  clear h hc
  go_enter Tryd.func85, Tryd.ntmps85
  go_wp2_with fail
  refine NX.out.mono ?_
  rintro e w1 ⟨⟨r, hr, rfl⟩, hs1, ho1⟩
  have HS1 : Hid (SrcT w1 b a len cap (A + 1)) := hs1
  have HO1 : Hid (OnlyB b w w1) := ho1
  clear hs1 ho1 NX
  go_wp2
  go_ret
  exact ⟨⟨_, rfl⟩, HS1.out, HO1.out⟩
def RetRq (e : Ending) : Prop := ∃ (s : Nat) (x : Rqst), s < 3 ∧ x.s = (s : Int) ∧ x.v ≤ 255 ∧ 0 ≤ x.v ∧ 1 ≤ x.c ∧ x.c ≤ 4 ∧ x.r.size = 32 ∧ e = .returned (.agg #[.int .i64 (s : Int), .int .i64 x.q, .int .i64 x.v, .int .i64 x.c, .string x.r])
set_option maxRecDepth 100000 in
set_option maxHeartbeats 1000000 in
theorem request_t (B b : Nat) (a : Option Addr) (len cap A : Nat) (z : Nat → Nat) (hA : A ≤ 10000) (w : World) (h : SrcT w b a len cap A) (hc : Cd w B b a len z) :
    Calls Tryd.prog 84 #[.pointer (some ⟨b, 0, none⟩)] w fun e w' => RetRq e ∧ SrcT w' b a len cap (A + 5) ∧ OnlyB b w w' := by
  have hbw := h.lt
  have W1 : Below w.heap.size w (w.alloc (.cells #[.int .i64 0, .int .i64 0, .int .i64 0, .int .i64 0, .string ⟨#[]⟩] 52)) := (Below.refl _ _).alloc (Nat.le_refl _) _
  have X1 : Hid (RqB (w.alloc (.cells #[.int .i64 0, .int .i64 0, .int .i64 0, .int .i64 0, .string ⟨#[]⟩] 52)) w.heap.size rqZ) := RqB.made rfl
  have HS : Hid (SrcT (w.alloc (.cells #[.int .i64 0, .int .i64 0, .int .i64 0, .int .i64 0, .string ⟨#[]⟩] 52)) b a len cap A) := h.below W1
  have HC : Hid (Cd (w.alloc (.cells #[.int .i64 0, .int .i64 0, .int .i64 0, .int .i64 0, .string ⟨#[]⟩] 52)) B b a len z) := hc.step (W1.mono hc.hw)
  have HO : Hid (OnlyB b w (w.alloc (.cells #[.int .i64 0, .int .i64 0, .int .i64 0, .int .i64 0, .string ⟨#[]⟩] 52))) := (OnlyB.refl _ _).below W1
  have NX : Hid (∀ (n A' : Nat) (w : World), 2 ≤ n → n ≤ 256 → A' ≤ A + 10 → SrcT w b a len cap A' → Cd w B b a len z → Calls Tryd.prog 82 #[.pointer (some ⟨b, 0, none⟩), .int .i64 (n : Int)] w fun e w' => (∃ r : Nat, r < n ∧ e = .returned (.int .i64 (r : Int))) ∧ SrcT w' b a len cap (A' + 1) ∧ OnlyB b w w') := fun n A' w h1 h2 h3 h hc => next_t n h1 h2 B b a len cap A' z (by omega) w h hc
  have RX : Hid (∀ w : World, SrcT w b a len cap (A + 4) → Cd w B b a len z → Calls Tryd.prog 107 #[.pointer (some ⟨b, 0, none⟩)] w fun e w' => Ret32 e ∧ SrcT w' b a len cap (A + 4 + 1) ∧ OnlyB b w w') := fun w h hc => root_t B b a len cap (A + 4) z (by omega) w h hc
  have HNE : Hid (w.heap.size ≠ b) := by show _ ≠ _; omega
  clear h hc W1 hA hbw
  go_enter Tryd.func84, Tryd.ntmps84
  go_wp2_with fail
  generalize (w.alloc (.cells #[.int .i64 0, .int .i64 0, .int .i64 0, .int .i64 0, .string ⟨#[]⟩] 52)) = v0 at *
  obtain ⟨pb, hpb⟩ : ∃ x, x = w.heap.size := ⟨_, rfl⟩
  have HPB : Hid (w.heap.size ≤ pb) := by show _ ≤ _; omega
  rw [← hpb] at X1 HNE ⊢
  clear hpb
  refine (NX.out 3 A _ (by omega) (by omega) (by omega) HS.out HC.out).mono ?_
  rintro e w1 ⟨⟨r0, hr, rfl⟩, hs, ho⟩
  replace HS : Hid (SrcT w1 b a len cap (A + 1)) := hs
  replace HC : Hid (Cd w1 B b a len z) := HC.out.only ho
  replace HO : Hid (OnlyB b w w1) := HO.out.trans ho
  replace X1 : Hid (RqB w1 pb rqZ) := X1.out.onlyB ho HNE.out
  have R0 : Hid (r0 < 3) := hr
  clear hs ho hr
  go_wp2_with fail
  refine (NX.out 9 (A + 1) _ (by omega) (by omega) (by omega) HS.out HC.out).mono ?_
  rintro e w2 ⟨⟨r1, hr, rfl⟩, hs, ho⟩
  replace HS : Hid (SrcT w2 b a len cap (A + 1 + 1)) := hs
  replace HC : Hid (Cd w2 B b a len z) := HC.out.only ho
  replace HO : Hid (OnlyB b w w2) := HO.out.trans ho
  replace X1 : Hid (RqB w2 pb rqZ) := X1.out.onlyB ho HNE.out
  clear hs ho
  go_wp2_with fail
  refine (NX.out 3 (A + 1 + 1) _ (by omega) (by omega) (by omega) HS.out HC.out).mono ?_
  rintro e w3 ⟨⟨r2, hr2, rfl⟩, hs, ho⟩
  replace HS : Hid (SrcT w3 b a len cap (A + 1 + 1 + 1)) := hs
  replace HC : Hid (Cd w3 B b a len z) := HC.out.only ho
  replace HO : Hid (OnlyB b w w3) := HO.out.trans ho
  replace X1 : Hid (RqB w3 pb rqZ) := X1.out.onlyB ho HNE.out
  have R2 : Hid (r2 < 3) := hr2
  clear hs ho hr2
  go_wp2_with fail
  refine (NX.out 4 (A + 1 + 1 + 1) _ (by omega) (by omega) (by omega) HS.out HC.out).mono ?_
  rintro e w4 ⟨⟨r3, hr3, rfl⟩, hs, ho⟩
  replace HS : Hid (SrcT w4 b a len cap (A + 4)) := hs
  replace HC : Hid (Cd w4 B b a len z) := HC.out.only ho
  replace HO : Hid (OnlyB b w w4) := HO.out.trans ho
  replace X1 : Hid (RqB w4 pb rqZ) := X1.out.onlyB ho HNE.out
  clear hs ho NX
  go_wp2_with fail
  refine (RX.out _ HS.out HC.out).mono ?_
  rintro e w5 ⟨⟨hh, h32, rfl⟩, hs, ho⟩
  have X2 := X1.out.onlyB ho HNE.out
  have Q : Hid (RetRq (.returned (.agg #[.int .i64 (r0 : Int), .int .i64 (1 + (r1 : Int)), .int .i64 (r2 : Int), .int .i64 (1 + (r3 : Int)), .string hh]))) := ⟨r0, ⟨(r0 : Int), 1 + (r1 : Int), (r2 : Int), 1 + (r3 : Int), hh⟩, R0.out, rfl, by have := R2.out; dsimp only; omega, by dsimp only; omega, by dsimp only; omega, by dsimp only; omega, h32, rfl⟩
  have QS : Hid (SrcT (rqSt w5 pb ⟨(r0 : Int), 1 + (r1 : Int), (r2 : Int), 1 + (r3 : Int), hh⟩) b a len cap (A + 5)) := SrcT.ofBlock hs (rqSt_block HNE.out.symm)
  have QO : Hid (OnlyB b w (rqSt w5 pb ⟨(r0 : Int), 1 + (r1 : Int), (r2 : Int), 1 + (r3 : Int), hh⟩)) := (HO.out.trans ho).rqSt HPB.out _
  have X3 : Hid (RqB (rqSt w5 pb ⟨(r0 : Int), 1 + (r1 : Int), (r2 : Int), 1 + (r3 : Int), hh⟩) pb ⟨(r0 : Int), 1 + (r1 : Int), (r2 : Int), 1 + (r3 : Int), hh⟩) := X2.st _
  obtain ⟨k0, k1, k2, k3, k4⟩ := X2.c
  have f0 := X2.fr 0
  have f1 := X2.fr 1
  have f2 := X2.fr 2
  have f3 := X2.fr 3
  have f4 := X2.fr 4
  have b1 : (r1 : Int) < 9 := by omega
  have b3 : (r3 : Int) < 4 := by omega
  clear hs ho RX HS HC HO X1 h32 X2 HNE HPB R0 R2 hr hr3
  go_wp2
  exact ret_cell (b := pb) (v := .agg #[.int .i64 (r0 : Int), .int .i64 (1 + (r1 : Int)), .int .i64 (r2 : Int), .int .i64 (1 + (r3 : Int)), .string hh]) Tryd.results84 rfl X3.out.load ⟨Q.out, QS.out, QO.out⟩
set_option maxRecDepth 100000 in
theorem appRq (w : World) (B : Nat) (v : Value) (n q : Nat) (R : Nat → Rqst) (x : Rqst) (hB : B ≤ w.heap.size) (hn : n ≤ 100000) (h : EO w B 52 5 v n (rqF R)) (hx : ∀ j, j < 5 → w.cell? ⟨q, 0 + j, none⟩ = some (rqV x j)) :
    ∃ v' w', (∀ ty, (Builtin.append_ #[41, 41] ty #[v, .slice (some ⟨q, 0, none⟩) 1 1]).run Tryd.prog w = .ok v' w') ∧ EO w' B 52 5 v' (n + 1) (rqF (updE R n x)) ∧ w.grownBy w' v.ownBlock := by
  have hI : (Tryd.prog.info? 52).map (fun i => (i.zero, i.size, i.bytes)) = some (some (.agg #[.int .i64 0, .int .i64 0, .int .i64 0, .int .i64 0, .string ⟨#[]⟩]), 5, 48) := by kernel_rfl
  obtain ⟨i, hi, hz, hsz, hby⟩ := info_parts hI
  obtain ⟨v', w', hr, ho, hg, _, hloc⟩ := run_append_own_at (P := Tryd.prog) w B 41 41 52 i _ 5 48 Tryd.underlying41 hi hz hsz hby rfl (by decide) v n _ h ⟨q, 0, none⟩ 1 1 ((List.range 5).map (rqV x)) (by simp) (fun j u hj => by
    rw [Go.WideShapes.add_plain]
    rw [List.getElem?_map, Option.map_eq_some_iff] at hj
    obtain ⟨b, hb, rfl⟩ := hj
    obtain ⟨hj', rfl⟩ := List.getElem?_eq_some_iff.1 hb
    rw [List.getElem_range]
    exact hx j (by simpa using hj')) (fun u hu => by
      obtain ⟨j, hj, rfl⟩ := List.mem_map.1 hu
      have := List.mem_range.1 hj
      rcases (show j = 0 ∨ j = 1 ∨ j = 2 ∨ j = 3 ∨ j = 4 by omega) with rfl | rfl | rfl | rfl | rfl <;> rfl) (by unfold maxLen; omega) (by omega) hB
  refine ⟨v', w', fun ty => hr, ?_, hg⟩
  unfold EO
  rw [elv_snoc, elv_congr (G := rqF R) (fun i hi j hj => by unfold rqF updE; rw [if_neg (by omega)])]
  have e : (List.range 5).map (rqF (updE R n x) n) = (List.range 5).map (rqV x) := by unfold rqF updE; simp
  rw [e]
  exact ho
def RqsOk (m : Nat) (RQ : Nat → Rqst) : Prop := ∀ i, i < m → (toRq (RQ i)).Ok
theorem RqsOk.snoc {m : Nat} {RQ : Nat → Rqst} {x : Rqst} (h : RqsOk m RQ) (hx : (toRq x).Ok) : RqsOk (m + 1) (updE RQ m x) := fun i hi => by
  rcases Nat.lt_or_ge i m with q | q
  · rw [updE_ne _ _ (by omega)]; exact h i q
  · obtain rfl : i = m := by omega
    rw [updE_eq]; exact hx
def RetRqs (B : Nat) (e : Ending) (w : World) : Prop := ∃ (m : Nat) (RQ : Nat → Rqst) (a : Option Addr) (c : Nat), m ≤ 22 ∧ RqsOk m RQ ∧ e = .returned (.slice a m c) ∧ EO w B 52 5 (.slice a m c) m (rqF RQ)
def SqR (w : World) (p k : Nat) : Prop := ∃ F : Nat → Int, (∀ i, i < 3 → 0 ≤ F i ∧ F i ≤ k) ∧ w.rowIs p 3 3 (fun i => .int .i64 (F i))
theorem SqR.lt {w : World} {p k : Nat} (h : SqR w p k) : p < w.heap.size := by
  obtain ⟨_, _, h⟩ := h
  exact World.rowIs.lt h
theorem SqR.ofBlock {w w' : World} {p k : Nat} (h : SqR w p k) (e : w'.heap[p]? = w.heap[p]?) : SqR w' p k := by
  obtain ⟨F, h1, h2⟩ := h
  exact ⟨F, h1, World.rowIs.of_block h2 e⟩
theorem SqR.made {w : World} {p : Nat} (hp : w.heap.size = p) : SqR (w.alloc (.cells #[.int .i64 0, .int .i64 0, .int .i64 0] 3)) p 0 := by
  subst hp
  exact ⟨fun _ => 0, fun i hi => ⟨by simp, by simp⟩, World.rowIs_alloc w _ _ _ (fun i hi => by
    rcases (show i = 0 ∨ i = 1 ∨ i = 2 by simp at hi; omega) with rfl | rfl | rfl <;> rfl)⟩
theorem rows_neB {w : World} {B g p n n' : Nat} {t t' : TypeId} {s : Nat} {v : Value} {F : Nat → Nat → Value} {G : Nat → Value} (h : EO w B t s v n F) (hg : v.ownBlock = some g) (hp : w.rowIs p t' n' G) (ht : t' ≠ t) : g ≠ p := fun q => by
  obtain ⟨hl, ⟨h1, _⟩ | ⟨g', cap, cur, hv, _, hh, _⟩⟩ := h
  · rw [h1] at hg; cases hg
  · rw [hv] at hg
    cases hg
    obtain ⟨c, hc, _⟩ := hp
    have q2 : g' = p := q
    rw [q2, hc] at hh
    cases hh
    exact ht rfl
theorem RqB.setQ {w : World} {p : Nat} {x : Rqst} (h : RqB w p x) (m : Int) : RqB (w.setCell ⟨p, 1, none⟩ (.int .i64 m)) p ⟨x.s, m, x.v, x.c, x.r⟩ := World.rowIs.congr (World.rowIs.set h 1 (.int .i64 m)) (fun i hi => by
  rcases (show i = 0 ∨ i = 1 ∨ i = 2 ∨ i = 3 ∨ i = 4 by omega) with rfl | rfl | rfl | rfl | rfl <;> rfl)
theorem size_t (b : Nat) (a : Option Addr) (len cap A : Nat) (hl : len ≤ maxLen) (w : World) (h : SrcT w b a len cap A) :
    Calls Tryd.prog 83 #[.pointer (some ⟨b, 0, none⟩), .int .i64 20] w fun e w' => (∃ r : Nat, 1 ≤ r ∧ r ≤ 20 ∧ e = .returned (.int .i64 (r : Int))) ∧ w = w' := by
  obtain ⟨_, _, _, _, hs⟩ := h
  have c0 := hs.code
  have hl' : (len : Int) ≤ 9223372036854775807 := by unfold maxLen at hl; omega
  have et : (len : Int).tdiv 12 = ((len / 12 : Nat) : Int) := (Int.ofNat_tdiv len 12).symm
  have eb : 12 * (len / 12) ≤ len := Nat.mul_div_le _ _
  have em : (len : Int) / 12 = ((len / 12 : Nat) : Int) := by omega
  clear hs
  generalize len / 12 = M at *
  have y1 : (M : Int) + 1 ≤ 9223372036854775807 := by omega
  have y2 : (M : Int) ≤ 1000000000000000000 := by omega
  by_cases hM : (20 : Int) < 1 + (M : Int)
  · go_enter Tryd.func83, Tryd.ntmps83
    go_wp2
    go_ret
    refine ⟨⟨20, by omega, by omega, ?_⟩, rfl⟩
    go_num
  · go_enter Tryd.func83, Tryd.ntmps83
    go_wp2
    go_ret
    refine ⟨⟨1 + M, by omega, by omega, ?_⟩, rfl⟩
    go_num
end Go.Proofs.YtpngjkhncfbnpaaDoor
namespace Go.Proofs.YtpngjkhncfbnpaaDoor
open Go.ChangeShapes Go.WideShapes Go.ChangeAt Go.RowKit
set_option linter.unusedVariables false
set_option maxRecDepth 100000 in
set_option maxHeartbeats 4000000 in
theorem requests_t (B b : Nat) (a : Option Addr) (len cap : Nat) (z : Nat → Nat) (w : World) (h : SrcT w b a len cap 0) (hc : Cd w B b a len z) :
    Calls Tryd.prog 49 #[.pointer (some ⟨b, 0, none⟩)] w fun e w' => RetRqs w.heap.size e w' ∧ OnlyB b w w' := by
  have hbw := h.lt
  have W1 : Below w.heap.size w ((w.alloc (.cells #[] 52)).alloc (.cells #[.int .i64 0, .int .i64 0, .int .i64 0] 3)) := ((Below.refl _ _).alloc (Nat.le_refl _) _).alloc (by simp) _
  have HS : Hid (SrcT ((w.alloc (.cells #[] 52)).alloc (.cells #[.int .i64 0, .int .i64 0, .int .i64 0] 3)) b a len cap 0) := h.below W1
  have HC : Hid (Cd ((w.alloc (.cells #[] 52)).alloc (.cells #[.int .i64 0, .int .i64 0, .int .i64 0] 3)) B b a len z) := hc.step (W1.mono hc.hw)
  have HO : Hid (OnlyB b w ((w.alloc (.cells #[] 52)).alloc (.cells #[.int .i64 0, .int .i64 0, .int .i64 0] 3))) := (OnlyB.refl _ _).below W1
  have RO : Hid (EO ((w.alloc (.cells #[] 52)).alloc (.cells #[.int .i64 0, .int .i64 0, .int .i64 0] 3)) w.heap.size 52 5 (.slice (some ⟨w.heap.size, 0, none⟩) 0 0) 0 (rqF (fun _ => rqZ))) := EO.below (EO.lit w _ _ _ (Nat.le_refl _) _) ((Below.refl _ _).alloc (Nat.le_refl _) _)
  have SQ : Hid (SqR ((w.alloc (.cells #[] 52)).alloc (.cells #[.int .i64 0, .int .i64 0, .int .i64 0] 3)) (w.heap.size + 1) 0) := SqR.made (by simp)
  have SZ : Hid (∀ w : World, SrcT w b a len cap 0 → Calls Tryd.prog 83 #[.pointer (some ⟨b, 0, none⟩), .int .i64 20] w fun e w' => (∃ r : Nat, 1 ≤ r ∧ r ≤ 20 ∧ e = .returned (.int .i64 (r : Int))) ∧ w = w') := fun w h => size_t b a len cap 0 hc.hl w h
  have NX : Hid (∀ (n : Nat) (w : World), 2 ≤ n → n ≤ 256 → SrcT w b a len cap 0 → Cd w B b a len z → Calls Tryd.prog 82 #[.pointer (some ⟨b, 0, none⟩), .int .i64 (n : Int)] w fun e w' => (∃ r : Nat, r < n ∧ e = .returned (.int .i64 (r : Int))) ∧ SrcT w' b a len cap 1 ∧ OnlyB b w w') := fun n w h1 h2 h hc => next_t n h1 h2 B b a len cap 0 z (by omega) w h hc
  have LX : Hid (∀ (A : Nat) (w : World), A ≤ 1000 → SrcT w b a len cap A → Cd w B b a len z → Calls Tryd.prog 84 #[.pointer (some ⟨b, 0, none⟩)] w fun e w' => RetRq e ∧ SrcT w' b a len cap (A + 5) ∧ OnlyB b w w') := fun A w hA h hc => request_t B b a len cap A z (by omega) w h hc
  have CX : Hid (∀ (A : Nat) (w : World), A ≤ 1000 → SrcT w b a len cap A → Cd w B b a len z → Calls Tryd.prog 85 #[.pointer (some ⟨b, 0, none⟩), .int .i64 4] w fun e w' => (∃ r : Bool, e = .returned (.bool r)) ∧ SrcT w' b a len cap (A + 1) ∧ OnlyB b w w') := fun A w hA h hc => chance_t 4 (by omega) (by omega) B b a len cap A z (by omega) w h hc
  have HBW : Hid (b < w.heap.size) := hbw
  clear h hc W1 hbw
  go_enter Tryd.func49, Tryd.ntmps49
  go_wp2_with fail
  generalize hw0 : ((w.alloc (.cells #[] 52)).alloc (.cells #[.int .i64 0, .int .i64 0, .int .i64 0] 3)) = v0 at *
  clear hw0
  obtain ⟨sb, hsb⟩ : ∃ x, x = w.heap.size + 1 := ⟨_, rfl⟩
  have HSB : Hid (w.heap.size ≤ sb) := by show _ ≤ _; omega
  rw [← hsb] at SQ ⊢
  clear hsb
  refine (SZ.out _ HS.out).mono ?_
  rintro e w1 ⟨⟨r1, hr1, hr1', rfl⟩, rfl⟩
  obtain ⟨n3, hn3⟩ : ∃ n3 : Nat, n3 = r1 + 3 := ⟨_, rfl⟩
  have er : (r1 : Int) + 3 = (n3 : Int) := by omega
  have HR1 : Hid (2 ≤ n3 ∧ n3 ≤ 23) := ⟨by omega, by omega⟩
  have b1 : (r1 : Int) ≤ 20 := by omega
  clear hr1 hr1' SZ hn3
  go_wp2_with fail
  refine (NX.out n3 _ HR1.out.1 (by have := HR1.out; omega) HS.out HC.out).mono ?_
  rintro e w2 ⟨⟨r, hr, rfl⟩, hs, ho⟩
  have HR : Hid (r ≤ 22) := by show _ ≤ _; have := HR1.out; omega
  have RO1 : Hid (EO w2 w.heap.size 52 5 (.slice (some ⟨w.heap.size, 0, none⟩) 0 0) 0 (rqF (fun _ => rqZ))) := RO.out.onlyB ho HBW.out
  have HS1 : Hid (SrcT w2 b a len cap 1) := hs
  have HC1 : Hid (Cd w2 B b a len z) := HC.out.only ho
  have HO1 : Hid (OnlyB b w w2) := HO.out.trans ho
  have SQ1 : Hid (SqR w2 sb 0) := SQ.out.ofBlock (ho.block sb SQ.out.lt (by have := HBW.out; have := HSB.out; omega))
  clear hs ho NX RO HS HC HO SQ hr er HR1 b1
  go_wp2
  go_loopw [3, 5] (fun v i wr => ∃ (q : Nat) (RQ : Nat → Rqst), q ≤ r ∧ i = .int .i64 ((r - q : Nat) : Int) ∧ RqsOk q RQ ∧ EO wr w.heap.size 52 5 v q (rqF RQ) ∧ SqR wr sb q ∧ SrcT wr b a len cap (1 + 6 * q) ∧ Cd wr B b a len z ∧ OnlyB b w wr) (fun _ i _ => (intOf i).toNat)
  case atStart => exact ⟨0, fun _ => rqZ, by omega, rfl, fun i hi => absurd hi (by omega), RO1.out, SQ1.out, HS1.out, HC1.out, HO1.out⟩
  case round =>
    clear RO1 HS1 HC1 HO1 SQ1
    obtain ⟨q, RQ, hq, rfl, hlow, ho, hsq, hs, hc, hon⟩ := hrel
    obtain ⟨pa, pc, hv⟩ := ho.form
    subst hv
    have RO : Hid (EO wr w.heap.size 52 5 (.slice pa q pc) q (rqF RQ)) := ho
    have HS : Hid (SrcT wr b a len cap (1 + 6 * q)) := hs
    have HC : Hid (Cd wr B b a len z) := hc
    have HO : Hid (OnlyB b w wr) := hon
    have HL : Hid (RqsOk q RQ) := hlow
    have SQ : Hid (SqR wr sb q) := hsq
    clear ho hs hc hon hlow hsq
    by_cases hlt : q < r
    · have e1 : (0 : Int) < ((r - q : Nat) : Int) := by omega
      have e2 : ((r - q : Nat) : Int) - 1 = ((r - (q + 1) : Nat) : Int) := by omega
      have e3 : (q : Int) < 120 := by have := HR.out; omega
      go_wp2_with fail
      refine (LX.out (1 + 6 * q) _ (by have := HR.out; omega) HS.out HC.out).mono ?_
      rintro e w3 ⟨⟨s, x, hs3, hxs, hv1, hv2, hc1, hc2, hr32, rfl⟩, hs, ho⟩
      obtain ⟨y, hy⟩ : ∃ y : Rqst, y = ⟨(s : Int), x.q, x.v, x.c, x.r⟩ := ⟨_, rfl⟩
      have Y0 : (s : Int) = y.s := by rw [hy]
      have Y1 : x.q = y.q := by rw [hy]
      have Y2 : x.v = y.v := by rw [hy]
      have Y3 : x.c = y.c := by rw [hy]
      have Y4 : x.r = y.r := by rw [hy]
      have hsz : w.heap.size ≤ w3.heap.size := (HO.out.trans ho).size
      have ROld : Hid (EO wr w.heap.size 52 5 (.slice pa q pc) q (rqF RQ)) := RO.out
      have BS : Below w3.heap.size w3 (w3.alloc (.cells #[.int .i64 y.s, .int .i64 y.q, .int .i64 y.v, .int .i64 y.c, .string y.r] 52)) := (Below.refl _ _).alloc (Nat.le_refl _) _
      replace RO : Hid (EO (w3.alloc (.cells #[.int .i64 y.s, .int .i64 y.q, .int .i64 y.v, .int .i64 y.c, .string y.r] 52)) w.heap.size 52 5 (.slice pa q pc) q (rqF RQ)) := (RO.out.onlyB ho HBW.out).below BS
      replace HS : Hid (SrcT (w3.alloc (.cells #[.int .i64 y.s, .int .i64 y.q, .int .i64 y.v, .int .i64 y.c, .string y.r] 52)) b a len cap (1 + 6 * q + 5)) := hs.below BS
      replace HC : Hid (Cd (w3.alloc (.cells #[.int .i64 y.s, .int .i64 y.q, .int .i64 y.v, .int .i64 y.c, .string y.r] 52)) B b a len z) := (HC.out.only ho).step (BS.mono (HC.out.only ho).hw)
      replace HO : Hid (OnlyB b w (w3.alloc (.cells #[.int .i64 y.s, .int .i64 y.q, .int .i64 y.v, .int .i64 y.c, .string y.r] 52))) := (HO.out.trans ho).below BS
      have hsq3 := SQ.out.ofBlock (ho.block sb SQ.out.lt (by have := HBW.out; have := HSB.out; omega))
      have HSP : Hid (sb < w3.heap.size) := hsq3.lt
      have HNR : Hid (∀ g, (Value.slice pa q pc).ownBlock = some g → g ≠ w3.heap.size) := fun g hg => by have := (RO.out.ge g hg).2; have h9 := ((ROld.out.onlyB ho HBW.out).ge g hg).2; omega
      replace SQ : Hid (SqR (w3.alloc (.cells #[.int .i64 y.s, .int .i64 y.q, .int .i64 y.v, .int .i64 y.c, .string y.r] 52)) sb q) := hsq3.ofBlock (BS.block sb hsq3.lt)
      clear hsq3 ROld
      have XB : Hid (RqB (w3.alloc (.cells #[.int .i64 y.s, .int .i64 y.q, .int .i64 y.v, .int .i64 y.c, .string y.r] 52)) w3.heap.size y) := RqB.madeOf rfl
      have HP : Hid (w.heap.size ≤ w3.heap.size) := hsz
      have HY : Hid (s < 3 ∧ y.s = (s : Int) ∧ (0 ≤ y.v ∧ y.v ≤ 255) ∧ (1 ≤ y.c ∧ y.c ≤ 4) ∧ y.r.size = 32) := ⟨hs3, Y0.symm, ⟨by rw [← Y2]; exact hv2, by rw [← Y2]; exact hv1⟩, ⟨by rw [← Y3]; exact hc1, by rw [← Y3]; exact hc2⟩, by rw [← Y4]; exact hr32⟩
      rw [Y0, Y1, Y2, Y3, Y4]
      clear hs ho BS hsz hs3 hxs hv1 hv2 hc1 hc2 hr32 Y0 Y1 Y2 Y3 Y4 hy x
      go_wp2_with fail
      generalize (w3.alloc (.cells #[.int .i64 y.s, .int .i64 y.q, .int .i64 y.v, .int .i64 y.c, .string y.r] 52)) = w4 at *
      obtain ⟨pb, hpb⟩ : ∃ t, t = w3.heap.size := ⟨_, rfl⟩
      rw [← hpb] at XB HP HSP HNR ⊢
      clear hpb
      refine (CX.out (1 + 6 * q + 5) _ (by have := HR.out; omega) HS.out HC.out).mono ?_
      rintro e w5 ⟨⟨rb, rfl⟩, hs, ho⟩
      have hnb : pb ≠ b := by have := HBW.out; have := HP.out; omega
      have HNB : Hid (pb ≠ b) := hnb
      replace RO : Hid (EO w5 w.heap.size 52 5 (.slice pa q pc) q (rqF RQ)) := RO.out.onlyB ho HBW.out
      replace HS : Hid (SrcT w5 b a len cap (1 + 6 * (q + 1))) := by
        show SrcT w5 b a len cap (1 + 6 * (q + 1))
        rw [show 1 + 6 * (q + 1) = 1 + 6 * q + 5 + 1 from by omega]
        exact hs
      replace HC : Hid (Cd w5 B b a len z) := HC.out.only ho
      replace HO : Hid (OnlyB b w w5) := HO.out.trans ho
      replace XB : Hid (RqB w5 pb y) := XB.out.onlyB ho hnb
      obtain ⟨F, hF, hW⟩ := SQ.out.ofBlock (ho.block sb SQ.out.lt (by have := HBW.out; have := HSB.out; omega))
      have HF : Hid (∀ i, i < 3 → 0 ≤ F i ∧ F i ≤ q) := hF
      have HW : Hid (w5.rowIs sb 3 3 (fun i => .int .i64 (F i))) := hW
      have HNS : Hid (sb ≠ pb ∧ sb ≠ b) := ⟨by have := HSP.out; omega, by have := HBW.out; have := HSB.out; omega⟩
      clear hnb hs ho SQ hF hW CX LX
      cases rb
      · --rounds that raise
        obtain ⟨m, hm⟩ : ∃ m : Int, (if (1 : Int) < F s + 1 then F s + 1 else 1) = m := ⟨_, rfl⟩
        have HM : Hid (1 ≤ m ∧ m ≤ q + 1) := by
          show _ ∧ _
          rw [← hm]
          have := HF.out s HY.out.1
          split <;> omega
        have X6 : RqB (w5.setCell ⟨sb, s, none⟩ (.int .i64 (F s + 1))) pb y := XB.out.ofBlock (Below.heap_setCell _ ⟨sb, s, none⟩ _ pb HNS.out.1.symm)
        have O6 : OnlyB b w (w5.setCell ⟨sb, s, none⟩ (.int .i64 (F s + 1))) := HO.out.setNew HSB.out s _
        have E6 : EO (w5.setCell ⟨sb, s, none⟩ (.int .i64 (F s + 1))) w.heap.size 52 5 (.slice pa q pc) q (rqF RQ) := RO.out.keep (fun g hg => Below.heap_setCell _ ⟨sb, s, none⟩ _ g (rows_neB RO.out hg HW.out (by decide)))
        have S6 : SrcT (w5.setCell ⟨sb, s, none⟩ (.int .i64 (F s + 1))) b a len cap (1 + 6 * (q + 1)) := HS.out.ofBlock (Below.heap_setCell _ ⟨sb, s, none⟩ _ b HNS.out.2.symm)
        have C6 : Cd (w5.setCell ⟨sb, s, none⟩ (.int .i64 (F s + 1))) B b a len z := HC.out.step ((Below.refl _ _).setCell (by have := HC.out.hb; have := HBW.out; have := HSB.out; dsimp only; omega) _)
        have Q6 : SqR (w5.setCell ⟨sb, s, none⟩ (.int .i64 (F s + 1))) sb (q + 1) := ⟨fun i => if i = s then F s + 1 else F i, fun i hi => by
          have := HF.out i hi
          have := HF.out s HY.out.1
          dsimp only
          split <;> omega, World.rowIs.congr (World.rowIs.set HW.out s (.int .i64 (F s + 1))) (fun i hi => by dsimp only; split <;> rfl)⟩
        have X7 : Hid (RqB ((w5.setCell ⟨sb, s, none⟩ (.int .i64 (F s + 1))).setCell ⟨pb, 1, none⟩ (.int .i64 m)) pb ⟨y.s, m, y.v, y.c, y.r⟩) := X6.setQ m
        have O7 : Hid (OnlyB b w ((w5.setCell ⟨sb, s, none⟩ (.int .i64 (F s + 1))).setCell ⟨pb, 1, none⟩ (.int .i64 m))) := O6.setNew HP.out 1 _
        have E7 : Hid (EO ((w5.setCell ⟨sb, s, none⟩ (.int .i64 (F s + 1))).setCell ⟨pb, 1, none⟩ (.int .i64 m)) w.heap.size 52 5 (.slice pa q pc) q (rqF RQ)) := E6.keep (fun g hg => Below.heap_setCell _ ⟨pb, 1, none⟩ _ g (HNR.out g hg))
        have S7 : Hid (SrcT ((w5.setCell ⟨sb, s, none⟩ (.int .i64 (F s + 1))).setCell ⟨pb, 1, none⟩ (.int .i64 m)) b a len cap (1 + 6 * (q + 1))) := S6.ofBlock (Below.heap_setCell _ ⟨pb, 1, none⟩ _ b HNB.out.symm)
        have C7 : Hid (Cd ((w5.setCell ⟨sb, s, none⟩ (.int .i64 (F s + 1))).setCell ⟨pb, 1, none⟩ (.int .i64 m)) B b a len z) := C6.step ((Below.refl _ _).setCell (by have := HC.out.hb; have := HBW.out; have := HP.out; dsimp only; omega) _)
        have Q7 : Hid (SqR ((w5.setCell ⟨sb, s, none⟩ (.int .i64 (F s + 1))).setCell ⟨pb, 1, none⟩ (.int .i64 m)) sb (q + 1)) := Q6.ofBlock (Below.heap_setCell _ ⟨pb, 1, none⟩ _ sb HNS.out.1)
        have f0 := XB.out.fr 1
        have g0 := World.rowIs.frozen HW.out s
        have ys : y.s = (s : Int) := HY.out.2.1
        have c5 : w5.cell? ⟨sb, s, none⟩ = some (.int .i64 (F s)) := World.rowIs.cell HW.out HY.out.1
        have s3 : (s : Int) < 3 := by have := HY.out.1; omega
        have Fb : 0 ≤ F s ∧ F s ≤ 22 := by have := HF.out s HY.out.1; have := HR.out; omega
        have Fb1 := Fb.1
        have Fb2 := Fb.2
        obtain ⟨k0, k1, k2, k3, k4⟩ := XB.out.c
        rw [ys] at k0
        have n1 := HNS.out.1
        clear X6 O6 E6 S6 C6 Q6 Fb ys
        go_upto_region 10 with fail
        generalize ((w5.setCell ⟨sb, s, none⟩ (.int .i64 (F s + 1))).setCell ⟨pb, 1, none⟩ (.int .i64 m)) = w7 at *
        obtain ⟨j0, j1, j2, j3, j4⟩ := X7.out.c
        have hA : Below w7.heap.size w7 (w7.alloc (.cells #[.int .i64 y.s, .int .i64 m, .int .i64 y.v, .int .i64 y.c, .string y.r] 52)) := (Below.refl _ _).alloc (Nat.le_refl _) _
        have BL : RqB (w7.alloc (.cells #[.int .i64 y.s, .int .i64 m, .int .i64 y.v, .int .i64 y.c, .string y.r] 52)) w7.heap.size ⟨y.s, m, y.v, y.c, y.r⟩ := RqB.madeOf (x := ⟨y.s, m, y.v, y.c, y.r⟩) rfl
        obtain ⟨v9, w9, hr9, ho9, hg⟩ := appRq (w7.alloc (.cells #[.int .i64 y.s, .int .i64 m, .int .i64 y.v, .int .i64 y.c, .string y.r] 52)) w.heap.size (.slice pa q pc) q w7.heap.size RQ ⟨y.s, m, y.v, y.c, y.r⟩ (Nat.le_trans O7.out.size hA.size) (by have := HR.out; omega) (E7.out.below hA) (fun j hj => by
          rw [Nat.zero_add]
          exact World.rowIs.cell BL hj)
        have BW : Below w.heap.size (w7.alloc (.cells #[.int .i64 y.s, .int .i64 m, .int .i64 y.v, .int .i64 y.c, .string y.r] 52)) w9 := (Below.refl _ _).grown hg (Nat.le_trans O7.out.size hA.size) (fun t ht => (E7.out.ge t ht).1)
        have GB : ∀ t, t < w7.heap.size → (Value.slice pa q pc).ownBlock ≠ some t → w9.heap[t]? = w7.heap[t]? := fun t ht hn => (hg.block t (Nat.lt_of_lt_of_le ht hA.size) (Ne.symm hn)).trans (hA.block t ht)
        have HS9 : Hid (SrcT w9 b a len cap (1 + 6 * (q + 1))) := S7.out.ofBlock (GB b S7.out.lt (fun e => by have := (E7.out.ge b e).1; have := HBW.out; omega))
        have HC9 : Hid (Cd w9 B b a len z) := (C7.out.step (hA.mono C7.out.hw)).step (BW.mono (by have := C7.out.hb; have := HBW.out; omega))
        have HO9 : Hid (OnlyB b w w9) := by
          have h1 : OnlyB b w (w7.alloc (.cells #[.int .i64 y.s, .int .i64 m, .int .i64 y.v, .int .i64 y.c, .string y.r] 52)) := O7.out.below hA
          exact h1.belowAt BW
        have HL9 : Hid (RqsOk (q + 1) (updE RQ q ⟨y.s, m, y.v, y.c, y.r⟩)) := HL.out.snoc (by
          have h1 := HY.out
          have h2 := HM.out
          have h3 := HR.out
          exact ⟨⟨⟨by show 0 ≤ y.s; omega, by show y.s ≤ 65535; omega⟩, ⟨by show 1 ≤ m; omega, by show m ≤ 65535; omega⟩⟩, ⟨⟨h1.2.2.1.1, h1.2.2.1.2⟩, ⟨h1.2.2.2.1.1, by show y.c ≤ 1000000; omega⟩, h1.2.2.2.2⟩⟩)
        have SQ9 : Hid (SqR w9 sb (q + 1)) := Q7.out.ofBlock (GB sb Q7.out.lt (fun e => by
          obtain ⟨F', _, hW'⟩ := Q7.out
          exact rows_neB E7.out e hW' (by decide) rfl))
        have RO9 : Hid (EO w9 w.heap.size 52 5 v9 (q + 1) (rqF (updE RQ q ⟨y.s, m, y.v, y.c, y.r⟩))) := ho9
        have HAP : Hid _ := hr9
        have HLT : Hid (q < r) := hlt
        have hr22 := HR.out
        clear hA BL hr9 ho9 hg BW GB X7 O7 E7 S7 C7 Q7 c5 k0 k1 k2 k3 k4 HNS HF HW HNB HNR HM hm f0 g0 n1 Fb1 Fb2 s3 HP HSP XB HO HC HS RO HL
        go_wp2_with (at_builtin; refine Lib.wpList_append_run _ rfl (.tmp 42) (.tmp 44) _ _ rfl _ _ rfl rfl _ _ (HAP.out _) ?_)
        go_roundw
        case rel => exact ⟨q + 1, updE RQ q ⟨y.s, m, y.v, y.c, y.r⟩, by have := HLT.out; omega, by go_num, HL9.out, RO9.out, SQ9.out, HS9.out, HC9.out, HO9.out⟩
        case measure => have := HLT.out; simp [intOf]; omega
      · --rounds that do not
        obtain ⟨m, hm⟩ : ∃ m : Int, (if (1 : Int) < F s then F s else 1) = m := ⟨_, rfl⟩
        have HM : Hid (1 ≤ m ∧ m ≤ q + 1) := by
          show _ ∧ _
          rw [← hm]
          have := HF.out s HY.out.1
          split <;> omega
        have X6 : RqB w5 pb y := XB.out
        have O6 : OnlyB b w w5 := HO.out
        have E6 : EO w5 w.heap.size 52 5 (.slice pa q pc) q (rqF RQ) := RO.out
        have S6 : SrcT w5 b a len cap (1 + 6 * (q + 1)) := HS.out
        have C6 : Cd w5 B b a len z := HC.out
        have Q6 : SqR w5 sb (q + 1) := ⟨F, fun i hi => by have := HF.out i hi; omega, HW.out⟩
        have X7 : Hid (RqB (w5.setCell ⟨pb, 1, none⟩ (.int .i64 m)) pb ⟨y.s, m, y.v, y.c, y.r⟩) := X6.setQ m
        have O7 : Hid (OnlyB b w (w5.setCell ⟨pb, 1, none⟩ (.int .i64 m))) := O6.setNew HP.out 1 _
        have E7 : Hid (EO (w5.setCell ⟨pb, 1, none⟩ (.int .i64 m)) w.heap.size 52 5 (.slice pa q pc) q (rqF RQ)) := E6.keep (fun g hg => Below.heap_setCell _ ⟨pb, 1, none⟩ _ g (HNR.out g hg))
        have S7 : Hid (SrcT (w5.setCell ⟨pb, 1, none⟩ (.int .i64 m)) b a len cap (1 + 6 * (q + 1))) := S6.ofBlock (Below.heap_setCell _ ⟨pb, 1, none⟩ _ b HNB.out.symm)
        have C7 : Hid (Cd (w5.setCell ⟨pb, 1, none⟩ (.int .i64 m)) B b a len z) := C6.step ((Below.refl _ _).setCell (by have := HC.out.hb; have := HBW.out; have := HP.out; dsimp only; omega) _)
        have Q7 : Hid (SqR (w5.setCell ⟨pb, 1, none⟩ (.int .i64 m)) sb (q + 1)) := Q6.ofBlock (Below.heap_setCell _ ⟨pb, 1, none⟩ _ sb HNS.out.1)
        have f0 := XB.out.fr 1
        have g0 := World.rowIs.frozen HW.out s
        have ys : y.s = (s : Int) := HY.out.2.1
        have c5 : w5.cell? ⟨sb, s, none⟩ = some (.int .i64 (F s)) := World.rowIs.cell HW.out HY.out.1
        have s3 : (s : Int) < 3 := by have := HY.out.1; omega
        have Fb : 0 ≤ F s ∧ F s ≤ 22 := by have := HF.out s HY.out.1; have := HR.out; omega
        have Fb1 := Fb.1
        have Fb2 := Fb.2
        obtain ⟨k0, k1, k2, k3, k4⟩ := XB.out.c
        rw [ys] at k0
        have n1 := HNS.out.1
        clear X6 O6 E6 S6 C6 Q6 Fb ys
        go_upto_region 10 with fail
        generalize (w5.setCell ⟨pb, 1, none⟩ (.int .i64 m)) = w7 at *
        obtain ⟨j0, j1, j2, j3, j4⟩ := X7.out.c
        have hA : Below w7.heap.size w7 (w7.alloc (.cells #[.int .i64 y.s, .int .i64 m, .int .i64 y.v, .int .i64 y.c, .string y.r] 52)) := (Below.refl _ _).alloc (Nat.le_refl _) _
        have BL : RqB (w7.alloc (.cells #[.int .i64 y.s, .int .i64 m, .int .i64 y.v, .int .i64 y.c, .string y.r] 52)) w7.heap.size ⟨y.s, m, y.v, y.c, y.r⟩ := RqB.madeOf (x := ⟨y.s, m, y.v, y.c, y.r⟩) rfl
        obtain ⟨v9, w9, hr9, ho9, hg⟩ := appRq (w7.alloc (.cells #[.int .i64 y.s, .int .i64 m, .int .i64 y.v, .int .i64 y.c, .string y.r] 52)) w.heap.size (.slice pa q pc) q w7.heap.size RQ ⟨y.s, m, y.v, y.c, y.r⟩ (Nat.le_trans O7.out.size hA.size) (by have := HR.out; omega) (E7.out.below hA) (fun j hj => by
          rw [Nat.zero_add]
          exact World.rowIs.cell BL hj)
        have BW : Below w.heap.size (w7.alloc (.cells #[.int .i64 y.s, .int .i64 m, .int .i64 y.v, .int .i64 y.c, .string y.r] 52)) w9 := (Below.refl _ _).grown hg (Nat.le_trans O7.out.size hA.size) (fun t ht => (E7.out.ge t ht).1)
        have GB : ∀ t, t < w7.heap.size → (Value.slice pa q pc).ownBlock ≠ some t → w9.heap[t]? = w7.heap[t]? := fun t ht hn => (hg.block t (Nat.lt_of_lt_of_le ht hA.size) (Ne.symm hn)).trans (hA.block t ht)
        have HS9 : Hid (SrcT w9 b a len cap (1 + 6 * (q + 1))) := S7.out.ofBlock (GB b S7.out.lt (fun e => by have := (E7.out.ge b e).1; have := HBW.out; omega))
        have HC9 : Hid (Cd w9 B b a len z) := (C7.out.step (hA.mono C7.out.hw)).step (BW.mono (by have := C7.out.hb; have := HBW.out; omega))
        have HO9 : Hid (OnlyB b w w9) := by
          have h1 : OnlyB b w (w7.alloc (.cells #[.int .i64 y.s, .int .i64 m, .int .i64 y.v, .int .i64 y.c, .string y.r] 52)) := O7.out.below hA
          exact h1.belowAt BW
        have HL9 : Hid (RqsOk (q + 1) (updE RQ q ⟨y.s, m, y.v, y.c, y.r⟩)) := HL.out.snoc (by
          have h1 := HY.out
          have h2 := HM.out
          have h3 := HR.out
          exact ⟨⟨⟨by show 0 ≤ y.s; omega, by show y.s ≤ 65535; omega⟩, ⟨by show 1 ≤ m; omega, by show m ≤ 65535; omega⟩⟩, ⟨⟨h1.2.2.1.1, h1.2.2.1.2⟩, ⟨h1.2.2.2.1.1, by show y.c ≤ 1000000; omega⟩, h1.2.2.2.2⟩⟩)
        have SQ9 : Hid (SqR w9 sb (q + 1)) := Q7.out.ofBlock (GB sb Q7.out.lt (fun e => by
          obtain ⟨F', _, hW'⟩ := Q7.out
          exact rows_neB E7.out e hW' (by decide) rfl))
        have RO9 : Hid (EO w9 w.heap.size 52 5 v9 (q + 1) (rqF (updE RQ q ⟨y.s, m, y.v, y.c, y.r⟩))) := ho9
        have HAP : Hid _ := hr9
        have HLT : Hid (q < r) := hlt
        have hr22 := HR.out
        clear hA BL hr9 ho9 hg BW GB X7 O7 E7 S7 C7 Q7 c5 k0 k1 k2 k3 k4 HNS HF HW HNB HNR HM hm f0 g0 n1 Fb1 Fb2 s3 HP HSP XB HO HC HS RO HL
        go_wp2_with (at_builtin; refine Lib.wpList_append_run _ rfl (.tmp 42) (.tmp 44) _ _ rfl _ _ rfl rfl _ _ (HAP.out _) ?_)
        go_roundw
        case rel => exact ⟨q + 1, updE RQ q ⟨y.s, m, y.v, y.c, y.r⟩, by have := HLT.out; omega, by go_num, HL9.out, RO9.out, SQ9.out, HS9.out, HC9.out, HO9.out⟩
        case measure => have := HLT.out; simp [intOf]; omega
    · obtain rfl : q = r := by omega
      have e1 : ¬ (0 : Int) < ((q - q : Nat) : Int) := by omega
      have Q : Hid (RetRqs w.heap.size (.returned (.slice pa q pc)) wr) := ⟨q, RQ, pa, pc, HR.out, HL.out, rfl, RO.out⟩
      clear RO HS HC HL LX SQ CX
      go_wp2
      go_ret
      exact ⟨Q.out, HO.out⟩
set_option maxRecDepth 100000 in
theorem requestsOf_t (a : Option Addr) (len cap : Nat) (z : Nat → Nat) (hz : ∀ i, z i < 256) (hl : len ≤ maxLen) (w : World) (h : Code8 w a len z) :
    Calls Tryd.prog 18 #[.slice a len cap] w fun e w' => RetRqs w.heap.size e w' ∧ Below w.heap.size w w' := by
  have SC : Hid (Calls Tryd.prog 48 #[.slice a len cap] w fun e w' => e = .returned (.pointer (some ⟨w.heap.size, 0, none⟩)) ∧ Src w' w.heap.size a len cap 0 (len % 1000) ∧ Below w.heap.size w w') := source_any a len cap hl w
  have LV : Hid (∀ w' : World, SrcT w' w.heap.size a len cap 0 → Cd w' w.heap.size w.heap.size a len z → Calls Tryd.prog 49 #[.pointer (some ⟨w.heap.size, 0, none⟩)] w' fun e w'' => RetRqs w'.heap.size e w'' ∧ OnlyB w.heap.size w' w'') := fun w' h hc => requests_t _ _ a len cap z w' h hc
  have HC : Hid (Code8 w a len z) := h
  have HL : Hid (len ≤ maxLen ∧ ∀ i, z i < 256) := ⟨hl, hz⟩
  clear h hl hz
  go_enter Tryd.func18, Tryd.ntmps18
  go_wp2_with fail
  refine SC.out.mono ?_
  rintro e w1 ⟨rfl, hs, hb⟩
  have HS : Hid (SrcT w1 w.heap.size a len cap 0) := ⟨0, len % 1000, by omega, by omega, hs⟩
  have HD : Hid (Cd w1 w.heap.size w.heap.size a len z) := cd_of HL.out.2 HL.out.1 HC.out hb (Nat.le_refl _)
  have B1 : Hid (Below w.heap.size w w1) := hb
  clear hs hb SC HC HL
  go_wp2_with fail
  refine (LV.out _ HS.out HD.out).mono ?_
  rintro e w2 ⟨⟨m, LF, pa, pc, hm, hlow, rfl, ho⟩, hon⟩
  have Q : Hid (RetRqs w.heap.size (.returned (.slice pa m pc)) w2 ∧ Below w.heap.size w w2) := ⟨⟨m, LF, pa, pc, hm, hlow, rfl, ho.mono B1.out.size⟩, B1.out.trans (hon.toBelow (Nat.le_refl _) B1.out.size)⟩
  clear hon ho LV HS HD B1 hlow hm
  go_wp2
  go_ret
  exact Q.out
end Go.Proofs.YtpngjkhncfbnpaaDoor
