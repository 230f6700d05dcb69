/-
  A drive at work: the Cache emptied, blocks tampered with, saved, rolled back.
-/
import Derived.Test.YtgdfhgepbamhmaaDoorDiskRow
import Derived.Test.YtgdfhgepbamhmaaDoorDrive
import Derived.Test.YtgdfhgepbamhmaaDoorErrIs
import Derived.Test.YtgdfhgepbamhmaaDoorTxtA
namespace Go.Proofs.YtgdfhgepbamhmaaDoor
open Go.ChangeShapes Go.WideShapes Go.ChangeAt Go.RowKit
/-- From w to w' only blocks q and b, and new ones, have changed. -/
structure Only2 (q b : Nat) (w w' : World) : Prop where
  os : w'.os = w.os
  tape : w'.tape = w.tape
  output : w'.output = w.output
  size : w.heap.size ≤ w'.heap.size
  block : ∀ k, k < w.heap.size → k ≠ q → k ≠ b → w'.heap[k]? = w.heap[k]?
theorem Only2.refl (q b : Nat) (w : World) : Only2 q b w w := ⟨rfl, rfl, rfl, Nat.le_refl _, fun _ _ _ _ => rfl⟩
theorem Only2.below {q b : Nat} {w w' w'' : World} (h : Only2 q b w w') (hb : Below w'.heap.size w' w'') : Only2 q b w w'' :=
  ⟨hb.os.trans h.os, hb.tape.trans h.tape, hb.output.trans h.output, Nat.le_trans h.size hb.size, fun k hk h1 h2 => (hb.block k (Nat.lt_of_lt_of_le hk h.size)).trans (h.block k hk h1 h2)⟩
theorem Only2.left {q b : Nat} {w w' w'' : World} (h : Only2 q b w w') (ho : OnlyB q w' w'') : Only2 q b w w'' :=
  ⟨ho.os.trans h.os, ho.tape.trans h.tape, ho.output.trans h.output, Nat.le_trans h.size ho.size, fun k hk h1 h2 => (ho.block k (Nat.lt_of_lt_of_le hk h.size) h1).trans (h.block k hk h1 h2)⟩
theorem Only2.right {q b : Nat} {w w' w'' : World} (h : Only2 q b w w') (ho : OnlyB b w' w'') : Only2 q b w w'' :=
  ⟨ho.os.trans h.os, ho.tape.trans h.tape, ho.output.trans h.output, Nat.le_trans h.size ho.size, fun k hk h1 h2 => (ho.block k (Nat.lt_of_lt_of_le hk h.size) h2).trans (h.block k hk h1 h2)⟩
theorem Only2.toBelow {q b B : Nat} {w w' : World} (h : Only2 q b w w') (hq : B ≤ q) (hb : B ≤ b) (hw : B ≤ w.heap.size) : Below B w w' := ⟨h.os, h.tape, h.output, h.size, fun k hk => h.block k (by omega) (by omega) (by omega)⟩
theorem ownsRow_only2 {w w' : World} {B q b : Nat} {e : TypeId} {size : Nat} {v : Value} {n : Nat} {xs : List Value} (h : w.ownsRow B e size v n xs) (ho : Only2 q b w w') (h1 : v.ownBlock ≠ some q) (h2 : v.ownBlock ≠ some b) : w'.ownsRow B e size v n xs := ownsRow_block h (fun g hg => ho.block g (h.lt g hg).2 (fun e => h1 (e ▸ hg)) (fun e => h2 (e ▸ hg)))
set_option maxRecDepth 100000 in
set_option maxHeartbeats 1000000 in
theorem emptyCache_any (q b : Nat) (v0 v1 v2 : Value) (M : Int → Option Value) (hqb : q ≠ b) (w : World) (hq : Box4 w q 58 v0 v1 v2 (.map (some b))) (hm : MapI w b M) :
    Calls Tryd.prog 51 #[.pointer (some ⟨q, 0, none⟩)] w fun e w' => e = .returned (.tuple #[]) ∧ Box4 w' q 58 v0 (.slice none 0 0) v2 (.map (some b)) ∧ MapI w' b (fun _ => none) ∧ Only2 q b w w' := by
  have k1 := hq.c1
  have f1 := hq.fr 1
  have O1 : OnlyB q w (w.setCell ⟨q, 1, none⟩ (.slice none 0 0)) := (OnlyB.refl q w).setCell 1 _
  have Q1 := hq.set1 (.slice none 0 0)
  have k3 := Q1.c3
  obtain ⟨wz, hcl, hM, hO, hsz⟩ := MapI.cleared (P := Tryd.prog) (w := w.setCell ⟨q, 1, none⟩ (.slice none 0 0)) (hm.onlyB O1 (Ne.symm hqb)) Tryd.underlying56 0
  have HM : Hid (MapI wz b (fun _ => none)) := hM
  have HQ : Hid (Box4 wz q 58 v0 (.slice none 0 0) v2 (.map (some b))) := Q1.onlyB hO hqb
  have HO : Hid (Only2 q b w wz) := ((Only2.refl q b w).left O1).right hO
  clear hM hO hsz Q1 O1 hm hq
  go_enter Tryd.func51, Tryd.ntmps51
  go_wp2
  go_end0
  exact ⟨rfl, HQ.out, HM.out, HO.out⟩
/-- A drive at q with its map at b that holds d, in rows of the call's own. -/
structure Drv (w : World) (B q b : Nat) (d : Dk) (v0 v1 v2 : Value) : Prop where
  box : Box4 w q 58 v0 v1 v2 (.map (some b))
  t0 : TxR w B v0 d.nb d.B
  t1 : PnR w B v1 d.nc d.A d.D
  t2 : TxR w B v2 d.ns d.S
  m : MapI w b (lastM d.A d.D d.nc)
  s0 : v0.ownBlock ≠ some q ∧ v0.ownBlock ≠ some b
  s1 : v1.ownBlock ≠ some q ∧ v1.ownBlock ≠ some b
  s2 : v2.ownBlock ≠ some q ∧ v2.ownBlock ≠ some b
  qb : q ≠ b
  n01 : ∀ g, v0.ownBlock = some g → v1.ownBlock ≠ some g
  n02 : ∀ g, v0.ownBlock = some g → v2.ownBlock ≠ some g
  n12 : ∀ g, v1.ownBlock = some g → v2.ownBlock ≠ some g
  hq : B ≤ q
  hb : B ≤ b
theorem Drv.below {w w' : World} {B q b : Nat} {d : Dk} {v0 v1 v2 : Value} (h : Drv w B q b d v0 v1 v2) (hb : Below w.heap.size w w') : Drv w' B q b d v0 v1 v2 :=
  ⟨h.box.below hb, h.t0.below hb, h.t1.below hb, h.t2.below hb, h.m.below hb, h.s0, h.s1, h.s2, h.qb, h.n01, h.n02, h.n12, h.hq, h.hb⟩
theorem TxR.put {w : World} {B g n c : Nat} {f : Nat → ByteArray} (h : TxR w B (.slice (some ⟨g, 0, none⟩) n c) n f) (x : Nat) (s : ByteArray) : TxR (w.setCell ⟨g, x, none⟩ (.string s)) B (.slice (some ⟨g, 0, none⟩) n c) n (fun i => if i = x then s else f i) := by
  have := (World.ownsRow.stored h x (.string s)).1
  unfold TxR
  have e : (List.range n).map (fun i => Value.string (if i = x then s else f i)) = ((List.range n).map fun i => Value.string (f i)).set x (.string s) := by
    apply List.ext_getElem
    · simp
    · intro i h1 h2
      rw [List.getElem_set]
      simp only [List.getElem_map, List.getElem_range]
      by_cases e : x = i
      · subst e; simp
      · rw [if_neg e, if_neg (fun q => e q.symm)]
  rw [e]
  exact this
theorem TxR.pos {w : World} {B : Nat} {v : Value} {n : Nat} {f : Nat → ByteArray} (h : TxR w B v n f) (hn : 0 < n) : ∃ g c, v = .slice (some ⟨g, 0, none⟩) n c ∧ RowS w (some ⟨g, 0, none⟩) g n f ∧ B ≤ g ∧ n ≤ c ∧ g < w.heap.size := by
  obtain ⟨a, c, rfl, r, hB, -, hc⟩ := h.form
  have e := r.a hn
  have hlt := r.lt hn
  cases a with
  | none => cases e
  | some ad =>
    have e2 : ad = ⟨ad.block, 0, none⟩ := by
      have h1 : ad = ⟨rowOf (.slice (some ad) n c), 0, none⟩ := Option.some.inj e
      exact h1
    obtain ⟨g, rfl⟩ : ∃ g, ad = ⟨g, 0, none⟩ := ⟨_, e2⟩
    exact ⟨g, c, rfl, r, hB hn, hc, hlt⟩
/-- d with block x changed. -/
def Dk.tampered (d : Dk) (x : Nat) (s : ByteArray) : Dk := ⟨d.nb, fun i => if i = x then s else d.B i, d.nc, d.A, d.D, d.ns, d.S⟩
/-- Block C is none of the drive's. -/
def NotD (C q b : Nat) (v0 v1 v2 : Value) : Prop := C ≠ q ∧ C ≠ b ∧ v0.ownBlock ≠ some C ∧ v1.ownBlock ≠ some C ∧ v2.ownBlock ≠ some C
/-- What is not the drive's stays as it was, and does not become the drive's. -/
def KpD (q b : Nat) (v0 v1 v2 u0 u1 u2 : Value) (w w' : World) : Prop := ∀ C, C < w.heap.size → NotD C q b v0 v1 v2 → w'.heap[C]? = w.heap[C]? ∧ NotD C q b u0 u1 u2
/-- Below B, and what is not the drive's, nothing has changed. -/
def BelD (B q b : Nat) (v0 v1 v2 : Value) (w w' : World) : Prop := Below B w w' ∧ ∀ C, C < w.heap.size → NotD C q b v0 v1 v2 → w'.heap[C]? = w.heap[C]?
theorem KpD.same {q b : Nat} {v0 v1 v2 : Value} {w w' : World} (h : Below w.heap.size w w') : KpD q b v0 v1 v2 v0 v1 v2 w w' := fun C hC hn => ⟨h.block C hC, hn⟩
theorem KpD.trans {q b : Nat} {v0 v1 v2 u0 u1 u2 t0 t1 t2 : Value} {w w' w'' : World} (h : KpD q b v0 v1 v2 u0 u1 u2 w w') (hs : w.heap.size ≤ w'.heap.size) (k : KpD q b u0 u1 u2 t0 t1 t2 w' w'') : KpD q b v0 v1 v2 t0 t1 t2 w w'' := fun C hC hn => by
  obtain ⟨h1, h2⟩ := h C hC hn
  obtain ⟨h3, h4⟩ := k C (Nat.lt_of_lt_of_le hC hs) h2
  exact ⟨h3.trans h1, h4⟩
set_option maxRecDepth 100000 in
set_option maxHeartbeats 2000000 in
theorem tamper_yesK (B q b : Nat) (d : Dk) (v0 v1 v2 : Value) (x : Nat) (s : ByteArray) (hx : x < d.nb) (hs : s.size ≤ 200) (hn : d.nb ≤ 64) (w : World) (h : Drv w B q b d v0 v1 v2) :
    Calls Tryd.prog 45 #[.pointer (some ⟨q, 0, none⟩), .int .i64 (x : Int), .string s] w fun e w' => e = .returned .nilIface ∧ Drv w' B q b (d.tampered x s) v0 v1 v2 ∧ Below B w w' ∧ KpD q b v0 v1 v2 v0 v1 v2 w w' := by
  obtain ⟨g, c0, rfl, r0, hBg, hc0, hgl⟩ := h.t0.pos (by omega)
  obtain ⟨a1, c1, rfl, r1, -⟩ := h.t1.form
  obtain ⟨a2, c2, rfl, r2, -⟩ := h.t2.form
  have PF : Hid (∀ w : World, Calls Tryd.prog 50 #[.agg #[.slice (some ⟨g, 0, none⟩) d.nb c0, .slice a1 d.nc c1, .slice a2 d.ns c2], .int .i64 (x : Int), .string s] w fun e w' => e = .returned .nilIface ∧ Below w.heap.size w w') := fun w => placeFault_ok _ _ _ _ _ _ _ _ _ _ _ (by omega) (by omega) hs w
  have HD : Hid (Drv w B q b d (.slice (some ⟨g, 0, none⟩) d.nb c0) (.slice a1 d.nc c1) (.slice a2 d.ns c2)) := h
  have k0 := h.box.c0
  have k1 := h.box.c1
  have k2 := h.box.c2
  have hx' : (x : Int) < (d.nb : Int) := by omega
  have R0 : Hid (RowS w (some ⟨g, 0, none⟩) g d.nb d.B) := r0
  clear h r0 r1 r2
  go_enter Tryd.func45, Tryd.ntmps45
  go_wp2_with fail
  refine (PF.out _).mono ?_
  rintro e w1 ⟨rfl, hb⟩
  have H1 := HD.out.below hb
  have B1 : Hid (Below w.heap.size w w1) := hb
  clear k0 k1 k2 hb HD PF
  have k0 := H1.box.c0
  have r0 := R0.out.below B1.out
  have cx := r0.c x hx
  have fx := r0.z x hx
  have hgq : g ≠ q := fun e => H1.s0.1 (by rw [e]; rfl)
  have hgb : g ≠ b := fun e => H1.s0.2 (by rw [e]; rfl)
  have O1 : OnlyB g w1 (w1.setCell ⟨g, x, none⟩ (.string s)) := (OnlyB.refl g w1).setCell x _
  have H2 : Hid (Drv (w1.setCell ⟨g, x, none⟩ (.string s)) B q b (d.tampered x s) (.slice (some ⟨g, 0, none⟩) d.nb c0) (.slice a1 d.nc c1) (.slice a2 d.ns c2)) :=
    ⟨H1.box.onlyB O1 (Ne.symm hgq), H1.t0.put x s, H1.t1.onlyB O1 (H1.n01 g rfl), H1.t2.onlyB O1 (H1.n02 g rfl), H1.m.onlyB O1 (Ne.symm hgb), H1.s0, H1.s1, H1.s2, H1.qb, H1.n01, H1.n02, H1.n12, H1.hq, H1.hb⟩
  have B2 : Hid (Below B w (w1.setCell ⟨g, x, none⟩ (.string s))) := (B1.out.mono (by have := B1.out; omega)).trans (O1.toBelow hBg (by have := B1.out.size; omega))
  have KK : Hid (KpD q b (.slice (some ⟨g, 0, none⟩) d.nb c0) (.slice a1 d.nc c1) (.slice a2 d.ns c2) (.slice (some ⟨g, 0, none⟩) d.nb c0) (.slice a1 d.nc c1) (.slice a2 d.ns c2) w (w1.setCell ⟨g, x, none⟩ (.string s))) := fun C hC hN => ⟨(O1.block C (Nat.lt_of_lt_of_le hC B1.out.size) (fun e => hN.2.2.1 (by rw [e]; rfl))).trans (B1.out.block C hC), hN⟩
  clear H1 r0 O1
  go_wp2
  go_ret
  exact ⟨rfl, H2.out, B2.out, KK.out⟩
theorem tamper_yes (B q b : Nat) (d : Dk) (v0 v1 v2 : Value) (x : Nat) (s : ByteArray) (hx : x < d.nb) (hs : s.size ≤ 200) (hn : d.nb ≤ 64) (w : World) (h : Drv w B q b d v0 v1 v2) :
    Calls Tryd.prog 45 #[.pointer (some ⟨q, 0, none⟩), .int .i64 (x : Int), .string s] w fun e w' => e = .returned .nilIface ∧ Drv w' B q b (d.tampered x s) v0 v1 v2 ∧ Below B w w' := (tamper_yesK B q b d v0 v1 v2 x s hx hs hn w h).mono fun _ _ q => ⟨q.1, q.2.1, q.2.2.1⟩
set_option maxRecDepth 100000 in
set_option maxHeartbeats 2000000 in
theorem tamper_no (B q b : Nat) (d : Dk) (v0 v1 v2 : Value) (x : Int) (s : ByteArray) (p : Addr) (w : World) (h : Drv w B q b d v0 v1 v2) (p0 p1 : Addr) (hE0 : ErrAt w 0 p0) (hE1 : ErrAt w 1 p1) (hx : (¬ (0 ≤ x ∧ x < d.nb) ∧ p = p0) ∨ (0 ≤ x ∧ x < d.nb ∧ 200 < s.size ∧ p = p1)) :
    Calls Tryd.prog 45 #[.pointer (some ⟨q, 0, none⟩), .int .i64 x, .string s] w fun e w' => e = .returned (.iface 97 (.pointer (some p))) ∧ Below w.heap.size w w' := by
  obtain ⟨a0, c0, rfl, -⟩ := h.t0.form
  obtain ⟨a1, c1, rfl, -⟩ := h.t1.form
  obtain ⟨a2, c2, rfl, -⟩ := h.t2.form
  have PF : Hid (Calls Tryd.prog 50 #[.agg #[.slice a0 d.nb c0, .slice a1 d.nc c1, .slice a2 d.ns c2], .int .i64 x, .string s] w fun e w' => e = .returned (.iface 97 (.pointer (some p))) ∧ Below w.heap.size w w') := by
    rcases hx with ⟨q1, rfl⟩ | ⟨q1, q2, q3, rfl⟩
    · exact placeFault_range _ _ _ _ _ _ _ _ _ _ _ q1 p w hE0
    · exact placeFault_long _ _ _ _ _ _ _ _ _ _ _ q1 q2 q3 p w hE1
  have k0 := h.box.c0
  have k1 := h.box.c1
  have k2 := h.box.c2
  clear h hE0 hE1 hx
  go_enter Tryd.func45, Tryd.ntmps45
  go_wp2_with fail
  refine (Calls.mono PF.out) ?_
  rintro e w1 ⟨rfl, hb⟩
  have B1 : Hid (Below w.heap.size w w1) := hb
  clear k0 k1 k2 hb PF
  go_wp2
  go_ret
  exact ⟨rfl, B1.out⟩
/-- d behind a roll-back. -/
def Dk.rolled (d : Dk) : Dk := ⟨d.ns, d.S, 0, d.A, d.D, d.ns, d.S⟩
set_option maxRecDepth 100000 in
set_option maxHeartbeats 2000000 in
theorem rollBack_no (B q b : Nat) (d : Dk) (v0 v1 v2 : Value) (hs : d.ns = 0) (p : Addr) (w : World) (h : Drv w B q b d v0 v1 v2) (hE : ErrAt w 3 p) :
    Calls Tryd.prog 44 #[.pointer (some ⟨q, 0, none⟩)] w fun e w' => e = .returned (.iface 97 (.pointer (some p))) ∧ w = w' := by
  obtain ⟨a2, c2, rfl, -⟩ := h.t2.form
  have k2 := h.box.c2
  have hE' : w.cell? _ = _ := hE
  rw [hs] at k2
  clear h hE hs
  go_enter Tryd.func44, Tryd.ntmps44
  go_wp2
  go_ret
  exact ⟨rfl, rfl⟩
set_option maxRecDepth 100000 in
set_option maxHeartbeats 2000000 in
theorem rollBack_yesK (B q b : Nat) (d : Dk) (v0 v1 v2 : Value) (hs : 0 < d.ns) (hn : d.ns ≤ 64) (w : World) (hBw : B ≤ w.heap.size) (h : Drv w B q b d v0 v1 v2) :
    Calls Tryd.prog 44 #[.pointer (some ⟨q, 0, none⟩)] w fun e w' => e = .returned .nilIface ∧ (∃ v, Drv w' B q b d.rolled v (.slice none 0 0) v2 ∧ KpD q b v0 v1 v2 v (.slice none 0 0) v2 w w') ∧ Below B w w' := by
  obtain ⟨g, c2, rfl, r2, hBg, hc2, hgl⟩ := h.t2.pos hs
  have CB : Hid (∀ w : World, Strs w (some ⟨g, 0, none⟩) d.ns d.S → Calls Tryd.prog 43 #[.slice (some ⟨g, 0, none⟩) d.ns c2] w fun e w' => (∃ v, e = .returned v ∧ TxR w' w.heap.size v d.ns d.S) ∧ Below w.heap.size w w') := fun w h => copiedBlocks_any _ _ _ _ (by omega) (fun e => by cases e) w h
  have HD : Hid (Drv w B q b d v0 v1 (.slice (some ⟨g, 0, none⟩) d.ns c2)) := h
  have R2 : Hid (Strs w (some ⟨g, 0, none⟩) d.ns d.S) := r2.strs
  have EC : Hid (∀ (v0 v1 v2 : Value) (M : Int → Option Value) (w : World), Box4 w q 58 v0 v1 v2 (.map (some b)) → MapI w b M → Calls Tryd.prog 51 #[.pointer (some ⟨q, 0, none⟩)] w fun e w' => e = .returned (.tuple #[]) ∧ Box4 w' q 58 v0 (.slice none 0 0) v2 (.map (some b)) ∧ MapI w' b (fun _ => none) ∧ Only2 q b w w') := fun v0 v1 v2 M w h1 h2 => emptyCache_any q b v0 v1 v2 M h.qb w h1 h2
  have k2 := h.box.c2
  have e0 : ((d.ns : Int) == 0) = false := by simp; omega
  have hql := h.box.lt
  clear h r2
  go_enter Tryd.func44, Tryd.ntmps44
  go_wp2_with fail
  refine (CB.out _ R2.out).mono ?_
  rintro e w1 ⟨⟨v, rfl, hv⟩, hb⟩
  have H1 := HD.out.below hb
  obtain ⟨gv, cv, rfl, -, hgv, -, hgvl⟩ := hv.pos hs
  have k0 := H1.box.c0
  have f0 := H1.box.fr 0
  have O1 : OnlyB q w1 (w1.setCell ⟨q, 0, none⟩ (.slice (some ⟨gv, 0, none⟩) d.ns cv)) := (OnlyB.refl q w1).setCell 0 _
  have hne : gv ≠ q := by omega
  have nb1 : gv ≠ b := by have := HD.out.m.lt; omega
  have X1 : Hid (Box4 (w1.setCell ⟨q, 0, none⟩ (.slice (some ⟨gv, 0, none⟩) d.ns cv)) q 58 (.slice (some ⟨gv, 0, none⟩) d.ns cv) v1 (.slice (some ⟨g, 0, none⟩) d.ns c2) (.map (some b))) := H1.box.set0 _
  have T0 : Hid (TxR (w1.setCell ⟨q, 0, none⟩ (.slice (some ⟨gv, 0, none⟩) d.ns cv)) B (.slice (some ⟨gv, 0, none⟩) d.ns cv) d.ns d.S) := own_mono (hv.onlyB O1 (fun e => hne (Option.some.inj e))) hBw
  have T2 : Hid (TxR (w1.setCell ⟨q, 0, none⟩ (.slice (some ⟨gv, 0, none⟩) d.ns cv)) B (.slice (some ⟨g, 0, none⟩) d.ns c2) d.ns d.S) := H1.t2.onlyB O1 H1.s2.1
  have M1 : Hid (MapI (w1.setCell ⟨q, 0, none⟩ (.slice (some ⟨gv, 0, none⟩) d.ns cv)) b (lastM d.A d.D d.nc)) := H1.m.onlyB O1 (Ne.symm H1.qb)
  have B1 : Hid (Below B w (w1.setCell ⟨q, 0, none⟩ (.slice (some ⟨gv, 0, none⟩) d.ns cv))) := (hb.mono hBw).trans (O1.toBelow H1.hq (by have := hb.size; omega))
  have SZ : B ≤ (w1.setCell ⟨q, 0, none⟩ (.slice (some ⟨gv, 0, none⟩) d.ns cv)).heap.size := Nat.le_trans hBw B1.out.size
  have N : Hid (gv ≠ q ∧ gv ≠ b ∧ gv ≠ g ∧ g ≠ q ∧ g ≠ b ∧ q ≠ b ∧ B ≤ q ∧ B ≤ b) := ⟨hne, nb1, by omega, fun e => H1.s2.1 (by rw [e]; rfl), fun e => H1.s2.2 (by rw [e]; rfl), H1.qb, H1.hq, H1.hb⟩
  have KK : Hid (∀ C, C < w.heap.size → NotD C q b v0 v1 (.slice (some ⟨g, 0, none⟩) d.ns c2) → (w1.setCell ⟨q, 0, none⟩ (.slice (some ⟨gv, 0, none⟩) d.ns cv)).heap[C]? = w.heap[C]? ∧ C < (w1.setCell ⟨q, 0, none⟩ (.slice (some ⟨gv, 0, none⟩) d.ns cv)).heap.size ∧ C ≠ gv) := fun C hC hN => ⟨(O1.block C (Nat.lt_of_lt_of_le hC hb.size) hN.1).trans (hb.block C hC), Nat.lt_of_lt_of_le hC (Nat.le_trans hb.size O1.size), by omega⟩
  clear hb hv H1 CB R2 HD k2 O1 hgv hgvl hne nb1
  go_wp2_with fail
  generalize (w1.setCell ⟨q, 0, none⟩ (.slice (some ⟨gv, 0, none⟩) d.ns cv)) = u at *
  refine (EC.out _ _ _ _ _ X1.out M1.out).mono ?_
  rintro e w2 ⟨rfl, x2, m2, o2⟩
  have HF : Hid (Drv w2 B q b d.rolled (.slice (some ⟨gv, 0, none⟩) d.ns cv) (.slice none 0 0) (.slice (some ⟨g, 0, none⟩) d.ns c2)) :=
    ⟨x2, ownsRow_only2 T0.out o2 (fun e => N.out.1 (Option.some.inj e)) (fun e => N.out.2.1 (Option.some.inj e)), PnR.nil _ _ _ _, ownsRow_only2 T2.out o2 (fun e => N.out.2.2.2.1 (Option.some.inj e)) (fun e => N.out.2.2.2.2.1 (Option.some.inj e)), m2, ⟨fun e => N.out.1 (Option.some.inj e), fun e => N.out.2.1 (Option.some.inj e)⟩, ⟨fun e => (by cases e), fun e => (by cases e)⟩, ⟨fun e => N.out.2.2.2.1 (Option.some.inj e), fun e => N.out.2.2.2.2.1 (Option.some.inj e)⟩, N.out.2.2.2.2.2.1, fun _ _ e => (by cases e), fun g' e1 e2 => N.out.2.2.1 (Option.some.inj (e1.trans e2.symm)), fun _ e => (by cases e), N.out.2.2.2.2.2.2.1, N.out.2.2.2.2.2.2.2⟩
  have B2 : Hid (Below B w w2) := B1.out.trans (o2.toBelow N.out.2.2.2.2.2.2.1 N.out.2.2.2.2.2.2.2 SZ)
  have KF : Hid (KpD q b v0 v1 (.slice (some ⟨g, 0, none⟩) d.ns c2) (.slice (some ⟨gv, 0, none⟩) d.ns cv) (.slice none 0 0) (.slice (some ⟨g, 0, none⟩) d.ns c2) w w2) := fun C hC hN => by
    obtain ⟨z1, z2, z3⟩ := KK.out C hC hN
    exact ⟨(o2.block C z2 hN.1 hN.2.1).trans z1, hN.1, hN.2.1, fun e => z3 (Option.some.inj e).symm, (fun e => by cases e), hN.2.2.2.2⟩
  clear x2 m2 o2 X1 M1 T0 T2 B1 EC KK
  go_wp2
  go_ret
  exact ⟨rfl, ⟨_, HF.out, KF.out⟩, B2.out⟩
theorem rollBack_yes (B q b : Nat) (d : Dk) (v0 v1 v2 : Value) (hs : 0 < d.ns) (hn : d.ns ≤ 64) (w : World) (hBw : B ≤ w.heap.size) (h : Drv w B q b d v0 v1 v2) :
    Calls Tryd.prog 44 #[.pointer (some ⟨q, 0, none⟩)] w fun e w' => e = .returned .nilIface ∧ (∃ v, Drv w' B q b d.rolled v (.slice none 0 0) v2) ∧ Below B w w' := (rollBack_yesK B q b d v0 v1 v2 hs hn w hBw h).mono fun _ _ q => ⟨q.1, q.2.1.elim fun v z => ⟨v, z.1⟩, q.2.2⟩
end Go.Proofs.YtgdfhgepbamhmaaDoor
