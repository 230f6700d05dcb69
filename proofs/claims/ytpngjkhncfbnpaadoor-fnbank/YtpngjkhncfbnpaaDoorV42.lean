/-
  Texts of the proof, joined: Raise.
-/
import Derived.Test.YtpngjkhncfbnpaaDoorV40
import Derived.Test.YtpngjkhncfbnpaaDoorV41
import Derived.Deep.DeepCutAuto
namespace Go.Proofs.YtpngjkhncfbnpaaDoor
open Go.ChangeShapes Go.WideShapes Go.ChangeAt Go.RowKit
set_option linter.unusedVariables false
structure BkP (w : World) (p B : Nat) (b : Bk) (v0 v1 : Value) : Prop where
  x : Box2 w p 46 v0 v1
  r : BankE w B b.nr b.ns b v0 v1
  n0 : v0.ownBlock ≠ some p
  n1 : v1.ownBlock ≠ some p
theorem BkP.below {w w' : World} {p B : Nat} {b : Bk} {v0 v1 : Value} (h : BkP w p B b v0 v1) (hb : Below w.heap.size w w') : BkP w' p B b v0 v1 := ⟨h.x.below hb, ⟨h.r.e0.below hb, h.r.e1.below hb, h.r.n01⟩, h.n0, h.n1⟩
structure KpB (p : Nat) (v0 v1 : Value) (w w' : World) (u0 u1 : Value) : Prop where
  os : w'.os = w.os
  tape : w'.tape = w.tape
  output : w'.output = w.output
  size : w.heap.size ≤ w'.heap.size
  blk : ∀ g, g < w.heap.size → g ≠ p → v0.ownBlock ≠ some g → v1.ownBlock ≠ some g → w'.heap[g]? = w.heap[g]?
  o0 : ∀ g, u0.ownBlock = some g → v0.ownBlock = some g ∨ w.heap.size ≤ g
  o1 : ∀ g, u1.ownBlock = some g → v1.ownBlock = some g ∨ w.heap.size ≤ g
theorem KpB.ofBelow {p : Nat} {v0 v1 : Value} {w w' : World} (hb : Below w.heap.size w w') : KpB p v0 v1 w w' v0 v1 := ⟨hb.os, hb.tape, hb.output, hb.size, fun g h _ _ _ => hb.block g h, fun g e => .inl e, fun g e => .inl e⟩
theorem KpB.trans {p : Nat} {v0 v1 u0 u1 t0 t1 : Value} {w w' w'' : World} (h : KpB p v0 v1 w w' u0 u1) (k : KpB p u0 u1 w' w'' t0 t1) : KpB p v0 v1 w w'' t0 t1 :=
  ⟨k.os.trans h.os, k.tape.trans h.tape, k.output.trans h.output, Nat.le_trans h.size k.size, fun g h1 h2 h3 h4 => (k.blk g (Nat.lt_of_lt_of_le h1 h.size) h2 (fun e => (h.o0 g e).elim h3 (fun q => by omega)) (fun e => (h.o1 g e).elim h4 (fun q => by omega))).trans (h.blk g h1 h2 h3 h4),
    fun g e => (k.o0 g e).elim (fun e => h.o0 g e) (fun q => .inr (Nat.le_trans h.size q)), fun g e => (k.o1 g e).elim (fun e => h.o1 g e) (fun q => .inr (Nat.le_trans h.size q))⟩
theorem KpB.toBelow {p B : Nat} {b : Bk} {v0 v1 u0 u1 : Value} {w w' : World} (h : KpB p v0 v1 w w' u0 u1) (hp : B ≤ p) (hr : BkP w p B b v0 v1) (hB : B ≤ w.heap.size) : Below B w w' :=
  ⟨h.os, h.tape, h.output, h.size, fun g hg => h.blk g (by omega) (by omega) (fun e => by have := (hr.r.e0.ge g e).1; omega) (fun e => by have := (hr.r.e1.ge g e).1; omega)⟩
def RetRs (p B : Nat) (b : Bk) (cd mk : Int) (v0 v1 : Value) (w : World) (e : Ending) (w' : World) : Prop := ∃ u0 u1, e = .returned (.tuple #[.int .i64 cd, .int .i64 mk]) ∧ BkP w' p B b u0 u1 ∧ KpB p v0 v1 w w' u0 u1
theorem step_fault {b b' : Bk} {x : Rg} {cd mk : Int} (h : StepIs b x b' cd mk) (hk : b.Ok) : ∃ (y : Rg) (cf : Int), ((b.kR x.v < b.nr ∧ (b.R (b.kR x.v)).v = x.v ∧ y = b.R (b.kR x.v)) ∨ (¬ (b.kR x.v < b.nr ∧ (b.R (b.kR x.v)).v = x.v) ∧ y = rgZ)) ∧ FaultIs b.nr y x cf ∧ (0 ≤ y.c ∧ y.c ≤ 1000000) ∧
    ((cf ≠ 0 ∧ b' = b ∧ cd = cf ∧ mk = y.c) ∨ (cf = 0 ∧ cd = 0 ∧ mk = x.c ∧ ((b.hasR x.v ∧ b' = b.setR x) ∨ (¬ b.hasR x.v ∧ b' = b.insR x)))) := by
  obtain ⟨now, hn, h⟩ := h
  have hr := hn.range hk
  have hy : ∃ y : Rg, ((b.kR x.v < b.nr ∧ (b.R (b.kR x.v)).v = x.v ∧ y = b.R (b.kR x.v)) ∨ (¬ (b.kR x.v < b.nr ∧ (b.R (b.kR x.v)).v = x.v) ∧ y = rgZ)) ∧ y.c = now ∧ (b.hasR x.v → 1 ≤ y.c) := by
    rcases hn with ⟨g, e⟩ | ⟨g, e⟩
    · exact ⟨_, .inl ⟨g.1, g.2, rfl⟩, e.symm, fun _ => (hk.1.2 _ g.1).1.2.1.1⟩
    · exact ⟨_, .inr ⟨g, rfl⟩, e.symm, fun q => absurd q g⟩
  obtain ⟨y, hy, hyc, hy1⟩ := hy
  have hz : ¬ b.hasR x.v → y = rgZ ∧ y.c = 0 := fun g => by
    rcases hy with ⟨g1, g2, _⟩ | ⟨_, rfl⟩
    · exact absurd ⟨g1, g2⟩ g
    · exact ⟨rfl, rfl⟩
  have h6 := hk.1.1
  rcases h with ⟨k1, rfl, rfl, rfl⟩ | ⟨k1, k2, rfl, rfl, rfl⟩ | ⟨k1, k2, rfl, rfl, rfl⟩ | ⟨k1, k2, g, n6, rfl, rfl, rfl⟩ | ⟨k1, k2, g, rfl, rfl, rfl⟩ | ⟨k1, k2, g, n6, rfl, rfl, rfl⟩
  · exact ⟨y, 19, hy, .inl ⟨by omega, rfl⟩, by omega, .inl ⟨by omega, rfl, rfl, hyc.symm⟩⟩
  · exact ⟨y, 11, hy, .inr (.inl ⟨by omega, by omega, rfl⟩), by omega, .inl ⟨by omega, rfl, rfl, hyc.symm⟩⟩
  · exact ⟨y, 15, hy, .inr (.inr (.inl ⟨by omega, by omega, rfl⟩)), by omega, .inl ⟨by omega, rfl, rfl, hyc.symm⟩⟩
  · obtain ⟨z1, z2⟩ := hz g
    exact ⟨y, 7, hy, .inr (.inr (.inr (.inl ⟨z1, by omega, n6, rfl⟩))), by omega, .inl ⟨by omega, rfl, rfl, hyc.symm⟩⟩
  · exact ⟨y, 0, hy, .inr (.inr (.inr (.inr (.inr ⟨hy1 g, by omega, by omega, rfl⟩)))), by omega, .inr ⟨rfl, rfl, rfl, .inl ⟨g, rfl⟩⟩⟩
  · obtain ⟨z1, z2⟩ := hz g
    exact ⟨y, 0, hy, .inr (.inr (.inr (.inr (.inl ⟨z1, by omega, n6, rfl⟩)))), by omega, .inr ⟨rfl, rfl, rfl, .inr ⟨g, rfl⟩⟩⟩
def PtRg (w : World) (B : Nat) (v : Value) (n : Nat) (R : Nat → Rg) (e : Ending) (w' : World) : Prop := (∃ v', e = .returned v' ∧ EO w' B 54 3 v' n (rgF R) ∧ (v'.ownBlock = v.ownBlock ∨ ∃ g, v'.ownBlock = some g ∧ w.heap.size ≤ g)) ∧ w.grownBy w' v.ownBlock
theorem putRg_any (b b' : Bk) (x : Rg) (hk : b.Ok) (hs : (b.hasR x.v ∧ b' = b.setR x) ∨ (¬ b.hasR x.v ∧ b' = b.insR x)) (B : Nat) (v : Value) (w : World) (hB : B ≤ w.heap.size) (h : EO w B 54 3 v b.nr (rgF b.R)) :
    Calls Tryd.prog 111 #[v, .int .i64 x.v, .agg #[.int .i64 x.v, .int .i64 x.c, .string x.r], .func (.func 58) #[] #[]] w fun e w' => PtRg w B v b'.nr b'.R e w' := by
  have h6 : b.nr ≤ 6 := hk.1.1
  obtain ⟨a, c, rfl⟩ := h.form
  rcases hs with ⟨g, rfl⟩ | ⟨g, rfl⟩
  · obtain ⟨gg, rfl⟩ : ∃ gg, a = some ⟨gg, 0, none⟩ := by
      obtain ⟨g2, r2, _⟩ := h.rowE
      exact ⟨g2, r2.a (by have := g.1; omega)⟩
    refine (putRg_there B gg b.nr c b.R x (b.kR x.v) (hk.posR x.v) g.1 g.2 (by omega) w h).mono ?_
    rintro e w' ⟨rfl, ho, hb⟩
    exact ⟨⟨_, rfl, ho, .inl rfl⟩, ⟨hb.os, hb.tape, hb.output, hb.size, fun q h1 h2 => hb.block q h1 (fun e => h2 (by rw [e]; rfl))⟩⟩
  · refine (putRg_new B a b.nr c (b.kR x.v) b.R x (hk.posR x.v) g (by omega) w hB h).mono ?_
    rintro e w' ⟨⟨v', rfl, ho, hl⟩, hg⟩
    exact ⟨⟨v', rfl, ho, hl⟩, hg⟩
def PtSe (w : World) (B : Nat) (v : Value) (n : Nat) (R : Nat → Se) (e : Ending) (w' : World) : Prop := (∃ v', e = .returned v' ∧ EO w' B 100 4 v' n (seF R) ∧ (v'.ownBlock = v.ownBlock ∨ ∃ g, v'.ownBlock = some g ∧ w.heap.size ≤ g)) ∧ w.grownBy w' v.ownBlock
theorem putSe_any (b b' : Bk) (x : Se) (hk : b.Ok) (hs : (b.hasS x.id ∧ b' = b.setS x) ∨ (¬ b.hasS x.id ∧ b' = b.insS x)) (B : Nat) (v : Value) (w : World) (hB : B ≤ w.heap.size) (h : EO w B 100 4 v b.ns (seF b.S)) :
    Calls Tryd.prog 92 #[v, .int .i64 x.id, .agg #[.int .i64 x.id, .int .i64 x.sq, .int .i64 x.cd, .int .i64 x.ma], .func (.func 90) #[] #[]] w fun e w' => PtSe w B v b'.ns b'.S e w' := by
  have h6 : b.ns ≤ 6 := hk.2.1
  obtain ⟨a, c, rfl⟩ := h.form
  rcases hs with ⟨g, rfl⟩ | ⟨g, rfl⟩
  · obtain ⟨gg, rfl⟩ : ∃ gg, a = some ⟨gg, 0, none⟩ := by
      obtain ⟨g2, r2, _⟩ := h.rowE
      exact ⟨g2, r2.a (by have := g.1; omega)⟩
    refine (putSe_there B gg b.ns c b.S x (b.kS x.id) (hk.posS x.id) g.1 g.2 (by omega) w h).mono ?_
    rintro e w' ⟨rfl, ho, hb⟩
    exact ⟨⟨_, rfl, ho, .inl rfl⟩, ⟨hb.os, hb.tape, hb.output, hb.size, fun q h1 h2 => hb.block q h1 (fun e => h2 (by rw [e]; rfl))⟩⟩
  · refine (putSe_new B a b.ns c (b.kS x.id) b.S x (hk.posS x.id) g (by omega) w hB h).mono ?_
    rintro e w' ⟨⟨v', rfl, ho, hl⟩, hg⟩
    exact ⟨⟨v', rfl, ho, hl⟩, hg⟩
set_option maxRecDepth 100000 in
set_option maxHeartbeats 4000000 in
theorem raise_any (p B : Nat) (b b' : Bk) (x : Rg) (cd mk : Int) (hk : b.Ok) (hs : StepIs b x b' cd mk) (v0 v1 : Value) (w : World) (hB : B ≤ w.heap.size) (h : BkP w p B b v0 v1) :
    Calls Tryd.prog 91 #[.pointer (some ⟨p, 0, none⟩), .agg #[.int .i64 x.v, .int .i64 x.c, .string x.r]] w fun e w' => RetRs p B b' cd mk v0 v1 w e w' := by
  obtain ⟨a0, c0, rfl⟩ := h.r.e0.form
  obtain ⟨y, cf, hy, hf, hyr, hcase⟩ := step_fault hs hk
  have FI : Hid (∀ w : World, Els w 3 a0 b.nr (rgF b.R) → Calls Tryd.prog 57 #[.slice a0 b.nr c0, .int .i64 x.v, .func (.func 58) #[] #[]] w fun e w' => e = .returned (.agg #[.int .i64 y.v, .int .i64 y.c, .string y.r]) ∧ Below w.heap.size w w') := fun w hE => findRegister_any a0 b.nr c0 b.R x.v _ (hk.posR x.v) (by have := hk.1.1; omega) w hE y hy
  have RF : Hid (∀ w : World, w.cell? ⟨p, 0, none⟩ = some (.slice a0 b.nr c0) → Calls Tryd.prog 110 #[.pointer (some ⟨p, 0, none⟩), .agg #[.int .i64 y.v, .int .i64 y.c, .string y.r], .agg #[.int .i64 x.v, .int .i64 x.c, .string x.r]] w fun e w' => e = .returned (.int .i64 cf) ∧ Below w.heap.size w w') := fun w hp => raiseFault_any p b.nr c0 a0 y x cf hf hyr w hp
  have PT : Hid (∀ w : World, ((b.hasR x.v ∧ b' = b.setR x) ∨ (¬ b.hasR x.v ∧ b' = b.insR x)) → B ≤ w.heap.size → EO w B 54 3 (.slice a0 b.nr c0) b.nr (rgF b.R) → Calls Tryd.prog 111 #[.slice a0 b.nr c0, .int .i64 x.v, .agg #[.int .i64 x.v, .int .i64 x.c, .string x.r], .func (.func 58) #[] #[]] w fun e w' => PtRg w B (.slice a0 b.nr c0) b'.nr b'.R e w') := fun w hc hB h => putRg_any b b' x hk hc B _ w hB h
  have KE : Hid (b' = b ∨ (b'.ns = b.ns ∧ b'.S = b.S)) := by
    rcases hcase with ⟨_, e, _⟩ | ⟨_, _, _, ⟨_, e⟩ | ⟨_, e⟩⟩
    · exact .inl e
    · rw [e]; exact .inr ⟨rfl, rfl⟩
    · rw [e]; exact .inr ⟨rfl, rfl⟩
  have P0 : Hid (BkP (w.alloc (.cells #[.int .i64 x.v, .int .i64 x.c, .string x.r] 54)) p B b (.slice a0 b.nr c0) v1) := h.below ((Below.refl _ _).alloc (Nat.le_refl _) _)
  have XR : Hid (Box3 (w.alloc (.cells #[.int .i64 x.v, .int .i64 x.c, .string x.r] 54)) w.heap.size 54 (.int .i64 x.v) (.int .i64 x.c) (.string x.r)) := Box3.madeAt rfl _ _ _ _
  have A1 : Hid (Below w.heap.size w (w.alloc (.cells #[.int .i64 x.v, .int .i64 x.c, .string x.r] 54))) := (Below.refl _ _).alloc (Nat.le_refl _) _
  have HPL : Hid (p < w.heap.size) := h.x.lt
  have G0 : Hid (∀ g, (Value.slice a0 b.nr c0).ownBlock = some g → g < w.heap.size) := fun g e => (h.r.e0.ge g e).2
  have HC : Hid ((cf ≠ 0 ∧ b' = b ∧ cd = cf ∧ mk = y.c) ∨ (cf = 0 ∧ cd = 0 ∧ mk = x.c ∧ ((b.hasR x.v ∧ b' = b.setR x) ∨ (¬ b.hasR x.v ∧ b' = b.insR x)))) := hcase
  have HBw : Hid (B ≤ w.heap.size) := hB
  clear h hs hk hy hf hyr hcase hB
  go_enter Tryd.func91, Tryd.ntmps91
  go_wp2_with fail
  generalize (w.alloc (.cells #[.int .i64 x.v, .int .i64 x.c, .string x.r] 54)) = u at *
  obtain ⟨q0, hq0⟩ : ∃ q0, q0 = w.heap.size := ⟨_, rfl⟩
  rw [← hq0] at XR HPL G0 ⊢
  have Q0 : Hid (q0 = w.heap.size) := hq0
  clear hq0
  go_cut [6] (fun pv wx => ∃ q, pv = .pointer (some ⟨q, 0, none⟩) ∧ Box3 wx q 54 (.int .i64 y.v) (.int .i64 y.c) (.string y.r) ∧ Below u.heap.size u wx)
  case first =>
    have H : Below u.heap.size u u.drew := (Below.refl _ _).drew
    refine wp_region_noPanic ?_
    refine wp_region_held_drew (S := fun w' => Below u.heap.size u w') (by kernel_rfl) H (fun _ => ?_)
    generalize u.drew = y0 at *
    refine wpAnyH_take (i := 0) (v := .pointer (some ⟨p, 0, none⟩)) rfl (by kernel_rfl) (by kernel_rfl) (by kernel_rfl) (fun _ _ _ h => h) (Or.inl ⟨by rfl, ?_⟩) H ?_
    · intro w' hSw; go_simp
    change wpAnyH _ _ _ _ _ _ _ { tmps := #[_,_,_,_,_,_,_,_,_,_,_,_,_,_,_,_,_,_,_,_,_,_,_,_,_,_,_,_,_,_,_,_,_,_,_,_,_], defers := _ } _
    refine wpAnyH_take (i := 1) (v := .pointer (some ⟨p, 0, none⟩)) rfl (by kernel_rfl) (by kernel_rfl) (by kernel_rfl) (fun _ _ _ h => h) (Or.inl ⟨by rfl, ?_⟩) H ?_
    · intro w' hSw; go_simp
    change wpAnyH _ _ _ _ _ _ _ { tmps := #[_,_,_,_,_,_,_,_,_,_,_,_,_,_,_,_,_,_,_,_,_,_,_,_,_,_,_,_,_,_,_,_,_,_,_,_,_], defers := _ } _
    refine wpAnyH_take (i := 2) (v := .pointer (some ⟨p, 0, none⟩)) rfl (by kernel_rfl) (by kernel_rfl) (by kernel_rfl) (fun _ _ _ h => h) (Or.inl ⟨by rfl, ?_⟩) H ?_
    · intro w' hSw; go_simp
    change wpAnyH _ _ _ _ _ _ _ { tmps := #[_,_,_,_,_,_,_,_,_,_,_,_,_,_,_,_,_,_,_,_,_,_,_,_,_,_,_,_,_,_,_,_,_,_,_,_,_], defers := _ } _
    refine wpAnyH_take (i := 3) (v := .slice a0 b.nr c0) rfl (by kernel_rfl) (by kernel_rfl) (by kernel_rfl) (fun _ _ _ h => h) (Or.inl ⟨by rfl, ?_⟩) H ?_
    · intro w' hSw; have t0 := (P0.out.x.below hSw).c0; clear hSw; go_simp
    change wpAnyH _ _ _ _ _ _ _ { tmps := #[_,_,_,_,_,_,_,_,_,_,_,_,_,_,_,_,_,_,_,_,_,_,_,_,_,_,_,_,_,_,_,_,_,_,_,_,_], defers := _ } _
    refine wpAnyH_take (i := 4) (v := .pointer (some ⟨q0, 0, none⟩)) rfl (by kernel_rfl) (by kernel_rfl) (by kernel_rfl) (fun _ _ _ h => h) (Or.inl ⟨by rfl, ?_⟩) H ?_
    · intro w' hSw; go_simp
    change wpAnyH _ _ _ _ _ _ _ { tmps := #[_,_,_,_,_,_,_,_,_,_,_,_,_,_,_,_,_,_,_,_,_,_,_,_,_,_,_,_,_,_,_,_,_,_,_,_,_], defers := _ } _
    refine wpAnyH_take (i := 5) (v := .int .i64 x.v) rfl (by kernel_rfl) (by kernel_rfl) (by kernel_rfl) (fun _ _ _ h => h) (Or.inl ⟨by rfl, ?_⟩) H ?_
    · intro w' hSw; have t0 := (XR.out.below hSw).c0; clear hSw; go_simp
    change wpAnyH _ _ _ _ _ _ _ { tmps := #[_,_,_,_,_,_,_,_,_,_,_,_,_,_,_,_,_,_,_,_,_,_,_,_,_,_,_,_,_,_,_,_,_,_,_,_,_], defers := _ } _
    refine wpAnyH_ready (rs := [6, 7]) (by kernel_rfl) (by simp) ?_
    refine (AllReadyH.cons rfl (fun KK hK => ?_) (AllReadyH.cons rfl (fun KK hK => ?_) AllReadyH.nil))
    · skip
      go_simp
      refine (FI.out _ (P0.out.r.e0.els.below H)).mono ?_
      rintro e y1 ⟨rfl, hb⟩
      replace H : Below u.heap.size u y1 := H.trans (hb.mono H.size)
      clear hb
      refine hK.out _ _ H (fun _ => ?_)
      clear hK KK
      change wpAnyH _ _ _ _ _ _ _ { tmps := #[_,_,_,_,_,_,_,_,_,_,_,_,_,_,_,_,_,_,_,_,_,_,_,_,_,_,_,_,_,_,_,_,_,_,_,_,_], defers := _ } _
      refine wpAnyH_ready (rs := [7]) (by kernel_rfl) (by simp) ?_
      refine (AllReadyH.cons rfl (fun KK hK => ?_) AllReadyH.nil)
      go_simp
      have hb : Below y1.heap.size y1 (y1.alloc (.cells #[.int .i64 0, .int .i64 0, .string ⟨#[]⟩] 54)) := (Below.refl _ _).alloc (Nat.le_refl _) _
      have PZ : Hid (Box3 (y1.alloc (.cells #[.int .i64 0, .int .i64 0, .string ⟨#[]⟩] 54)) y1.heap.size 54 (.int .i64 0) (.int .i64 0) (.string ⟨#[]⟩)) := Box3.madeAt rfl _ _ _ _
      have Lpb : Hid (u.heap.size ≤ y1.heap.size) := H.size
      replace H : Below u.heap.size u (y1.alloc (.cells #[.int .i64 0, .int .i64 0, .string ⟨#[]⟩] 54)) := H.trans (hb.mono H.size)
      clear hb
      refine hK.out _ _ H (fun _ => ?_)
      clear hK KK
      generalize (y1.alloc (.cells #[.int .i64 0, .int .i64 0, .string ⟨#[]⟩] 54)) = y2 at *
      generalize y1.heap.size = pb at *
      change wpAnyH _ _ _ _ _ _ _ { tmps := #[_,_,_,_,_,_,_,_,_,_,_,_,_,_,_,_,_,_,_,_,_,_,_,_,_,_,_,_,_,_,_,_,_,_,_,_,_], defers := _ } _
      refine wpAnyH_ready (rs := [8]) (by kernel_rfl) (by simp) ?_
      refine (AllReadyH.cons rfl (fun KK hK => ?_) AllReadyH.nil)
      have t0 := PZ.out.c0
      have t1 := PZ.out.c1
      have t2 := PZ.out.c2
      have f0 := PZ.out.fr 0
      have f1 := PZ.out.fr 1
      have f2 := PZ.out.fr 2
      go_simp
      refine hK.out _ _ (((H.setCell (by exact Lpb.out) _).setCell (by exact Lpb.out) _).setCell (by exact Lpb.out) _) (fun _ => ?_)
      clear hK KK
      change wpAnyH _ _ _ _ _ _ _ { tmps := #[_,_,_,_,_,_,_,_,_,_,_,_,_,_,_,_,_,_,_,_,_,_,_,_,_,_,_,_,_,_,_,_,_,_,_,_,_], defers := _ } _
      refine wpAnyH_done (by kernel_rfl) ?_ _
      refine NoPanic.normal ?_
      have XY : Hid (Box3 (((y2.setCell ⟨pb, 0, none⟩ (.int .i64 y.v)).setCell ⟨pb, 1, none⟩ (.int .i64 y.c)).setCell ⟨pb, 2, none⟩ (.string y.r)) pb 54 (.int .i64 y.v) (.int .i64 y.c) (.string y.r)) := ((PZ.out.set0 _).set1 _).set2 _
      have HF : Hid (Below u.heap.size u (((y2.setCell ⟨pb, 0, none⟩ (.int .i64 y.v)).setCell ⟨pb, 1, none⟩ (.int .i64 y.c)).setCell ⟨pb, 2, none⟩ (.string y.r))) := ((H.setCell (by exact Lpb.out) _).setCell (by exact Lpb.out) _).setCell (by exact Lpb.out) _
      clear PZ H t0 t1 t2 f0 f1 f2
      change Exit.then _ _ Exit.normal { tmps := #[_, _, _, _, _, _, _, _, _, _, _, _, _, _, _, _, _, _, _, _, _, _, _, _, _, _, _, _, _, _, _, _, _, _, _, _, _], defers := _ } _
      generalize ((y2.setCell ⟨pb, 0, none⟩ (.int .i64 y.v)).setCell ⟨pb, 1, none⟩ (.int .i64 y.c)).setCell ⟨pb, 2, none⟩ (.string y.r) = z at *
      go_wp2_with fail
      go_meet
      exact ⟨pb, rfl, XY.out, HF.out⟩
    · skip
      go_simp
      have hb : Below y0.heap.size y0 (y0.alloc (.cells #[.int .i64 0, .int .i64 0, .string ⟨#[]⟩] 54)) := (Below.refl _ _).alloc (Nat.le_refl _) _
      have PZ : Hid (Box3 (y0.alloc (.cells #[.int .i64 0, .int .i64 0, .string ⟨#[]⟩] 54)) y0.heap.size 54 (.int .i64 0) (.int .i64 0) (.string ⟨#[]⟩)) := Box3.madeAt rfl _ _ _ _
      have Lpb : Hid (u.heap.size ≤ y0.heap.size) := H.size
      replace H : Below u.heap.size u (y0.alloc (.cells #[.int .i64 0, .int .i64 0, .string ⟨#[]⟩] 54)) := H.trans (hb.mono H.size)
      clear hb
      refine hK.out _ _ H (fun _ => ?_)
      clear hK KK
      generalize (y0.alloc (.cells #[.int .i64 0, .int .i64 0, .string ⟨#[]⟩] 54)) = y1 at *
      generalize y0.heap.size = pb at *
      change wpAnyH _ _ _ _ _ _ _ { tmps := #[_,_,_,_,_,_,_,_,_,_,_,_,_,_,_,_,_,_,_,_,_,_,_,_,_,_,_,_,_,_,_,_,_,_,_,_,_], defers := _ } _
      refine wpAnyH_ready (rs := [6]) (by kernel_rfl) (by simp) ?_
      refine (AllReadyH.cons rfl (fun KK hK => ?_) AllReadyH.nil)
      go_simp
      refine (FI.out _ (P0.out.r.e0.els.below H)).mono ?_
      rintro e y2 ⟨rfl, hb⟩
      replace PZ : Hid (Box3 y2 pb 54 (.int .i64 0) (.int .i64 0) (.string ⟨#[]⟩)) := PZ.out.below hb
      replace H : Below u.heap.size u y2 := H.trans (hb.mono H.size)
      clear hb
      refine hK.out _ _ H (fun _ => ?_)
      clear hK KK
      change wpAnyH _ _ _ _ _ _ _ { tmps := #[_,_,_,_,_,_,_,_,_,_,_,_,_,_,_,_,_,_,_,_,_,_,_,_,_,_,_,_,_,_,_,_,_,_,_,_,_], defers := _ } _
      refine wpAnyH_ready (rs := [8]) (by kernel_rfl) (by simp) ?_
      refine (AllReadyH.cons rfl (fun KK hK => ?_) AllReadyH.nil)
      have t0 := PZ.out.c0
      have t1 := PZ.out.c1
      have t2 := PZ.out.c2
      have f0 := PZ.out.fr 0
      have f1 := PZ.out.fr 1
      have f2 := PZ.out.fr 2
      go_simp
      refine hK.out _ _ (((H.setCell (by exact Lpb.out) _).setCell (by exact Lpb.out) _).setCell (by exact Lpb.out) _) (fun _ => ?_)
      clear hK KK
      change wpAnyH _ _ _ _ _ _ _ { tmps := #[_,_,_,_,_,_,_,_,_,_,_,_,_,_,_,_,_,_,_,_,_,_,_,_,_,_,_,_,_,_,_,_,_,_,_,_,_], defers := _ } _
      refine wpAnyH_done (by kernel_rfl) ?_ _
      refine NoPanic.normal ?_
      have XY : Hid (Box3 (((y2.setCell ⟨pb, 0, none⟩ (.int .i64 y.v)).setCell ⟨pb, 1, none⟩ (.int .i64 y.c)).setCell ⟨pb, 2, none⟩ (.string y.r)) pb 54 (.int .i64 y.v) (.int .i64 y.c) (.string y.r)) := ((PZ.out.set0 _).set1 _).set2 _
      have HF : Hid (Below u.heap.size u (((y2.setCell ⟨pb, 0, none⟩ (.int .i64 y.v)).setCell ⟨pb, 1, none⟩ (.int .i64 y.c)).setCell ⟨pb, 2, none⟩ (.string y.r))) := ((H.setCell (by exact Lpb.out) _).setCell (by exact Lpb.out) _).setCell (by exact Lpb.out) _
      clear PZ H t0 t1 t2 f0 f1 f2
      change Exit.then _ _ Exit.normal { tmps := #[_, _, _, _, _, _, _, _, _, _, _, _, _, _, _, _, _, _, _, _, _, _, _, _, _, _, _, _, _, _, _, _, _, _, _, _, _], defers := _ } _
      generalize ((y2.setCell ⟨pb, 0, none⟩ (.int .i64 y.v)).setCell ⟨pb, 1, none⟩ (.int .i64 y.c)).setCell ⟨pb, 2, none⟩ (.string y.r) = z at *
      go_wp2_with fail
      go_meet
      exact ⟨pb, rfl, XY.out, HF.out⟩
  case rest =>
    obtain ⟨q, rfl, xy, hb⟩ := hcut
    replace P0 : Hid (BkP wc p B b (.slice a0 b.nr c0) v1) := P0.out.below hb
    replace XR : Hid (Box3 wc q0 54 (.int .i64 x.v) (.int .i64 x.c) (.string x.r)) := XR.out.below hb
    have XY : Hid (Box3 wc q 54 (.int .i64 y.v) (.int .i64 y.c) (.string y.r)) := xy
    replace A1 : Hid (Below w.heap.size w wc) := A1.out.trans (hb.mono A1.out.size)
    clear xy hb FI
    have x0 := XR.out.c0
    have x1 := XR.out.c1
    have x2 := XR.out.c2
    have y0 := XY.out.c0
    have y1 := XY.out.c1
    have y2 := XY.out.c2
    go_wp2_with fail
    refine (RF.out _ P0.out.x.c0).mono ?_
    rintro e u2 ⟨rfl, hb⟩
    replace P0 : Hid (BkP u2 p B b (.slice a0 b.nr c0) v1) := P0.out.below hb
    replace XR : Hid (Box3 u2 q0 54 (.int .i64 x.v) (.int .i64 x.c) (.string x.r)) := XR.out.below hb
    replace XY : Hid (Box3 u2 q 54 (.int .i64 y.v) (.int .i64 y.c) (.string y.r)) := XY.out.below hb
    replace A1 : Hid (Below w.heap.size w u2) := A1.out.trans (hb.mono A1.out.size)
    clear hb RF x0 x1 x2 y0 y1 y2
    rcases HC.out with ⟨n0, rfl, rfl, rfl⟩ | ⟨rfl, rfl, rfl, hcs⟩
    · have y1 := XY.out.c1
      have n0' : (cd == 0) = false := by simpa using n0
      have HP : Hid (∀ n, RetRs p B b' cd y.c (.slice a0 b'.nr c0) v1 w (.returned (.tuple #[.int .i64 cd, .int .i64 y.c])) (u2.drewN n)) := fun n => ⟨_, _, rfl, P0.out.below (below_dN u2 n), KpB.ofBelow (A1.out.trans ((below_dN u2 n).mono A1.out.size))⟩
      clear HC n0 P0 A1 XR KE PT
      go_wp2_with fail
      go_quiet (fail)
      go_wp2
      go_ret2
      exact HP.out _
    · have HCS : Hid ((b.hasR x.v ∧ b' = b.setR x) ∨ (¬ b.hasR x.v ∧ b' = b.insR x)) := hcs
      have KE2 : Hid (b'.ns = b.ns ∧ b'.S = b.S) := by
        rcases hcs with ⟨_, e⟩ | ⟨_, e⟩
        · rw [e]; exact ⟨rfl, rfl⟩
        · rw [e]; exact ⟨rfl, rfl⟩
      have NQ : Hid (q0 ≠ p) := by have := HPL.out; show q0 ≠ p; omega
      clear hcs HC KE XY
      go_wp2_with fail
      replace P0 : Hid (BkP u2.drew p B b (.slice a0 b.nr c0) v1) := P0.out.below (Below.refl _ _).drew
      replace A1 : Hid (Below w.heap.size w u2.drew) := A1.out.drew
      have H : Box3 u2.drew q0 54 (.int .i64 x.v) (.int .i64 x.c) (.string x.r) := XR.out.below (Below.refl _ _).drew
      refine wp_region_noPanic ?_
      refine wp_region_held_drew (S := fun w' => Box3 w' q0 54 (.int .i64 x.v) (.int .i64 x.c) (.string x.r)) (by kernel_rfl) H (fun _ => ?_)
      generalize u2.drew = z0 at *
      refine wpAnyH_take (i := 0) (v := .pointer (some ⟨p, 0, none⟩)) rfl (by kernel_rfl) (by kernel_rfl) (by kernel_rfl) (fun _ _ _ h => h) (Or.inl ⟨by rfl, ?_⟩) H ?_
      · intro w' hSw; go_simp
      change wpAnyH _ _ _ _ _ _ _ { tmps := #[_,_,_,_,_,_,_,_,_,_,_,_,_,_,_,_,_,_,_,_,_,_,_,_,_,_,_,_,_,_,_,_,_,_,_,_,_], defers := _ } _
      refine wpAnyH_take (i := 1) (v := .pointer (some ⟨p, 0, none⟩)) rfl (by kernel_rfl) (by kernel_rfl) (by kernel_rfl) (fun _ _ _ h => h) (Or.inl ⟨by rfl, ?_⟩) H ?_
      · intro w' hSw; go_simp
      change wpAnyH _ _ _ _ _ _ _ { tmps := #[_,_,_,_,_,_,_,_,_,_,_,_,_,_,_,_,_,_,_,_,_,_,_,_,_,_,_,_,_,_,_,_,_,_,_,_,_], defers := _ } _
      refine wpAnyH_take (i := 2) (v := .pointer (some ⟨p, 0, none⟩)) rfl (by kernel_rfl) (by kernel_rfl) (by kernel_rfl) (fun _ _ _ h => h) (Or.inl ⟨by rfl, ?_⟩) H ?_
      · intro w' hSw; go_simp
      change wpAnyH _ _ _ _ _ _ _ { tmps := #[_,_,_,_,_,_,_,_,_,_,_,_,_,_,_,_,_,_,_,_,_,_,_,_,_,_,_,_,_,_,_,_,_,_,_,_,_], defers := _ } _
      refine wpAnyH_take (i := 3) (v := .pointer (some ⟨p, 0, none⟩)) rfl (by kernel_rfl) (by kernel_rfl) (by kernel_rfl) (fun _ _ _ h => h) (Or.inl ⟨by rfl, ?_⟩) H ?_
      · intro w' hSw; go_simp
      change wpAnyH _ _ _ _ _ _ _ { tmps := #[_,_,_,_,_,_,_,_,_,_,_,_,_,_,_,_,_,_,_,_,_,_,_,_,_,_,_,_,_,_,_,_,_,_,_,_,_], defers := _ } _
      refine wpAnyH_take (i := 5) (v := .pointer (some ⟨q0, 0, none⟩)) rfl (by kernel_rfl) (by kernel_rfl) (by kernel_rfl) (fun _ _ _ h => h) (Or.inl ⟨by rfl, ?_⟩) H ?_
      · intro w' hSw; go_simp
      change wpAnyH _ _ _ _ _ _ _ { tmps := #[_,_,_,_,_,_,_,_,_,_,_,_,_,_,_,_,_,_,_,_,_,_,_,_,_,_,_,_,_,_,_,_,_,_,_,_,_], defers := _ } _
      refine wpAnyH_take (i := 6) (v := .int .i64 x.v) rfl (by kernel_rfl) (by kernel_rfl) (by kernel_rfl) (fun _ _ _ h => h) (Or.inl ⟨by rfl, ?_⟩) H ?_
      · intro w' hSw; have t0 := hSw.c0; clear hSw; go_simp
      change wpAnyH _ _ _ _ _ _ _ { tmps := #[_,_,_,_,_,_,_,_,_,_,_,_,_,_,_,_,_,_,_,_,_,_,_,_,_,_,_,_,_,_,_,_,_,_,_,_,_], defers := _ } _
      refine wpAnyH_take (i := 7) (v := .agg #[.int .i64 x.v, .int .i64 x.c, .string x.r]) rfl (by kernel_rfl) (by kernel_rfl) (by kernel_rfl) (fun _ _ _ h => h) (Or.inl ⟨by rfl, ?_⟩) H ?_
      · intro w' hSw; have t0 := hSw.c0; have t1 := hSw.c1; have t2 := hSw.c2; clear hSw; go_simp
      change wpAnyH _ _ _ _ _ _ _ { tmps := #[_,_,_,_,_,_,_,_,_,_,_,_,_,_,_,_,_,_,_,_,_,_,_,_,_,_,_,_,_,_,_,_,_,_,_,_,_], defers := _ } _
      refine wpAnyH_ready (rs := [4]) (by kernel_rfl) (by simp) ?_
      refine (AllReadyH.cons rfl (fun KK hK => ?_) AllReadyH.nil)
      have t0 := P0.out.x.c0
      go_simp
      refine hK.out _ _ H (fun _ => ?_)
      clear hK KK
      change wpAnyH _ _ _ _ _ _ _ { tmps := #[_,_,_,_,_,_,_,_,_,_,_,_,_,_,_,_,_,_,_,_,_,_,_,_,_,_,_,_,_,_,_,_,_,_,_,_,_], defers := _ } _
      refine wpAnyH_ready (rs := [8]) (by kernel_rfl) (by simp) ?_
      refine (AllReadyH.cons rfl (fun KK hK => ?_) AllReadyH.nil)
      go_simp
      refine (PT.out _ HCS.out (Nat.le_trans HBw.out A1.out.size) P0.out.r.e0).mono ?_
      rintro e z1 ⟨⟨uu, rfl, ho, hl⟩, hg⟩
      obtain ⟨ax, cx, rfl⟩ := ho.form
      have hqb : ∀ g, g < z0.heap.size → (Value.slice a0 b.nr c0).ownBlock ≠ some g → z1.heap[g]? = z0.heap[g]? := fun g h1 h2 => hg.block g h1 (fun e => h2 e.symm)
      replace H : Box3 z1 q0 54 (.int .i64 x.v) (.int .i64 x.c) (.string x.r) := H.ofBlock (hqb _ H.lt (fun e => absurd (G0.out _ e) (Nat.lt_irrefl _)))
      have XP : Hid (Box2 z1 p 46 (.slice a0 b.nr c0) v1) := P0.out.x.ofBlock (hqb _ P0.out.x.lt P0.out.n0)
      have E0 : Hid (EO z1 B 54 3 (.slice ax b'.nr cx) b'.nr (rgF b'.R)) := ho
      have E1 : Hid (EO z1 B 100 4 v1 b.ns (seF b.S)) := P0.out.r.e1.keep (fun g e => hqb g (P0.out.r.e1.ge g e).2 (fun e2 => P0.out.r.n01 g e2 e))
      have KB : Hid (KpB p (.slice a0 b.nr c0) v1 z0 z1 (.slice ax b'.nr cx) v1) := ⟨hg.os, hg.tape, hg.output, hg.size, fun g h1 _ h3 _ => hqb g h1 h3, fun g e => by
          rcases hl with q | ⟨g2, q, q2⟩
          · exact .inl (q ▸ e)
          · exact .inr (by rw [q] at e; cases e; exact q2), fun g e => .inl e⟩
      have N01 : Hid (∀ g, (Value.slice ax b'.nr cx).ownBlock = some g → v1.ownBlock ≠ some g) := fun g e e2 => by
          rcases KB.out.o0 g e with q | q
          · exact P0.out.r.n01 g q e2
          · have := (P0.out.r.e1.ge g e2).2; omega
      have NP : Hid ((Value.slice ax b'.nr cx).ownBlock ≠ some p) := fun e => by
          rcases KB.out.o0 p e with q | q
          · exact P0.out.n0 q
          · have := P0.out.x.lt; omega
      have NP1 : Hid (v1.ownBlock ≠ some p) := P0.out.n1
      clear ho hl hg hqb
      refine hK.out _ _ H (fun _ => ?_)
      clear hK KK
      change wpAnyH _ _ _ _ _ _ _ { tmps := #[_,_,_,_,_,_,_,_,_,_,_,_,_,_,_,_,_,_,_,_,_,_,_,_,_,_,_,_,_,_,_,_,_,_,_,_,_], defers := _ } _
      refine wpAnyH_take (i := 9) (v := .pointer (some ⟨p, 0, none⟩)) rfl (by kernel_rfl) (by kernel_rfl) (by kernel_rfl) (fun _ _ _ h => h) (Or.inl ⟨by rfl, ?_⟩) H ?_
      · intro w' hSw; go_simp
      change wpAnyH _ _ _ _ _ _ _ { tmps := #[_,_,_,_,_,_,_,_,_,_,_,_,_,_,_,_,_,_,_,_,_,_,_,_,_,_,_,_,_,_,_,_,_,_,_,_,_], defers := _ } _
      refine wpAnyH_take (i := 10) (v := .pointer (some ⟨p, 0, none⟩)) rfl (by kernel_rfl) (by kernel_rfl) (by kernel_rfl) (fun _ _ _ h => h) (Or.inl ⟨by rfl, ?_⟩) H ?_
      · intro w' hSw; go_simp
      change wpAnyH _ _ _ _ _ _ _ { tmps := #[_,_,_,_,_,_,_,_,_,_,_,_,_,_,_,_,_,_,_,_,_,_,_,_,_,_,_,_,_,_,_,_,_,_,_,_,_], defers := _ } _
      refine wpAnyH_ready (rs := [11]) (by kernel_rfl) (by simp) ?_
      refine (AllReadyH.cons rfl (fun KK hK => ?_) AllReadyH.nil)
      have t0 := XP.out.c0
      have f0 := XP.out.fr 0
      go_simp
      refine hK.out _ _ (H.other (a := ⟨p, 0, none⟩) NQ.out _) (fun _ => ?_)
      clear hK KK
      change wpAnyH _ _ _ _ _ _ _ { tmps := #[_,_,_,_,_,_,_,_,_,_,_,_,_,_,_,_,_,_,_,_,_,_,_,_,_,_,_,_,_,_,_,_,_,_,_,_,_], defers := _ } _
      refine wpAnyH_done (by kernel_rfl) ?_ _
      refine NoPanic.normal ?_
      have PF : Hid (BkP (z1.setCell ⟨p, 0, none⟩ (.slice ax b'.nr cx)) p B b' (.slice ax b'.nr cx) v1) := ⟨XP.out.set0 _, ⟨E0.out.keep (fun g e => heap_setCell_other _ _ _ _ (fun q => NP.out (by rw [e, q]))), by rw [KE2.out.1, KE2.out.2]; exact E1.out.keep (fun g e => heap_setCell_other _ _ _ _ (fun q => NP1.out (by rw [e, q]))), N01.out⟩, NP.out, NP1.out⟩
      have KF : Hid (KpB p (.slice a0 b.nr c0) v1 w (z1.setCell ⟨p, 0, none⟩ (.slice ax b'.nr cx)) (.slice ax b'.nr cx) v1) := (KpB.ofBelow A1.out).trans (KB.out.trans ⟨rfl, rfl, rfl, by simp, fun g h1 h2 _ _ => heap_setCell_other _ _ _ _ h2, fun g e => .inl e, fun g e => .inl e⟩)
      have XF : Hid (Box3 (z1.setCell ⟨p, 0, none⟩ (.slice ax b'.nr cx)) q0 54 (.int .i64 x.v) (.int .i64 x.c) (.string x.r)) := H.other (a := ⟨p, 0, none⟩) NQ.out _
      clear H t0 f0 XP E0 E1 KB N01 NP NP1 P0 A1
      change Exit.then _ _ Exit.normal { tmps := #[_, _, _, _, _, _, _, _, _, _, _, _, _, _, _, _, _, _, _, _, _, _, _, _, _, _, _, _, _, _, _, _, _, _, _, _, _], defers := _ } _
      generalize z1.setCell ⟨p, 0, none⟩ (.slice ax b'.nr cx) = z at *
      have x1 := XF.out.c1
      have HP : Hid (∀ n, RetRs p B b' 0 x.c (.slice a0 b.nr c0) v1 w (.returned (.tuple #[.int .i64 0, .int .i64 x.c])) (z.drewN n)) := fun n => ⟨_, _, rfl, PF.out.below (below_dN z n), KF.out.trans (KpB.ofBelow (below_dN z n))⟩
      clear PF KF XF KE2 PT XR HCS
      go_wp2_with fail
      go_quiet (fail)
      go_wp2
      go_ret2
      exact HP.out _
end Go.Proofs.YtpngjkhncfbnpaaDoor
