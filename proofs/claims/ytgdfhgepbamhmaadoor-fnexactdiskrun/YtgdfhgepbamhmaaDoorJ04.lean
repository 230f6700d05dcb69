/-
  Slices of acts; rows of codes; a disk behind acts.
-/
import Derived.Test.YtgdfhgepbamhmaaDoorJ02
import Derived.Test.YtgdfhgepbamhmaaDoorDoneOk
import Derived.Test.YtgdfhgepbamhmaaDoorJ03
namespace Go.Proofs.YtgdfhgepbamhmaaDoor
open Go.ChangeShapes Go.WideShapes Go.ChangeAt Go.RowKit
set_option linter.unusedVariables false
/-- The five cells of an act. -/
structure ActC (w : World) (b o : Nat) (a : Ac) (ak : Option Addr) (ck : Nat) : Prop where
  c0 : w.cell? ⟨b, o, none⟩ = some (.int .i64 a.kd)
  c1 : w.cell? ⟨b, o + 1, none⟩ = some (.int .i64 a.x)
  c2 : w.cell? ⟨b, o + 2, none⟩ = some (.string a.s)
  c3 : w.cell? ⟨b, o + 3, none⟩ = some (.slice ak a.nk ck)
  c4 : w.cell? ⟨b, o + 4, none⟩ = some (.int .i64 a.t)
theorem ActC.lt {w : World} {b o : Nat} {a : Ac} {ak : Option Addr} {ck : Nat} (h : ActC w b o a ak ck) : b < w.heap.size := strBlock h.c0
theorem ActC.below {w w' : World} {b o : Nat} {a : Ac} {ak : Option Addr} {ck : Nat} (h : ActC w b o a ak ck) (hb : Below w.heap.size w w') : ActC w' b o a ak ck := ⟨(hb.cell (p := ⟨b, o, none⟩) h.lt).trans h.c0, (hb.cell (p := ⟨b, o + 1, none⟩) h.lt).trans h.c1, (hb.cell (p := ⟨b, o + 2, none⟩) h.lt).trans h.c2, (hb.cell (p := ⟨b, o + 3, none⟩) h.lt).trans h.c3, (hb.cell (p := ⟨b, o + 4, none⟩) h.lt).trans h.c4⟩
theorem ActC.of_block {w w' : World} {b o : Nat} {a : Ac} {ak : Option Addr} {ck : Nat} (h : ActC w b o a ak ck) (e : w'.heap[b]? = w.heap[b]?) : ActC w' b o a ak ck := ⟨by rw [← h.c0]; exact cellOf e, by rw [← h.c1]; exact cellOf e, by rw [← h.c2]; exact cellOf e, by rw [← h.c3]; exact cellOf e, by rw [← h.c4]; exact cellOf e⟩
/-- A slice of n acts. -/
def Acts (w : World) (ad : Option Addr) (n : Nat) (A : Nat → Ac) : Prop := ∀ i, i < n → ∃ b off ak ck, ad = some ⟨b, off, none⟩ ∧ ActC w b (off + i * 5) (A i) ak ck ∧ Bools w ak (A i).nk (A i).K
theorem Acts.below {w w' : World} {ad : Option Addr} {n : Nat} {A : Nat → Ac} (h : Acts w ad n A) (hb : Below w.heap.size w w') : Acts w' ad n A := fun i hi => by
  obtain ⟨b, off, ak, ck, ha, h1, h2⟩ := h i hi
  exact ⟨b, off, ak, ck, ha, h1.below hb, h2.below hb⟩
theorem Acts.opened {w : World} {ad : Option Addr} {n : Nat} {A : Nat → Ac} (h : Acts w ad n A) (hn : 0 < n) : ∃ b off, ad = some ⟨b, off, none⟩ ∧ ∀ i, i < n → ∃ ak ck, ActC w b (off + i * 5) (A i) ak ck ∧ Bools w ak (A i).nk (A i).K := by
  obtain ⟨b, off, _, _, rfl, _⟩ := h 0 hn
  refine ⟨b, off, rfl, fun i hi => ?_⟩
  obtain ⟨b', off', ak, ck, e, h1, h2⟩ := h i hi
  cases e
  exact ⟨ak, ck, h1, h2⟩
/-- A row of n numbers of the call's own. -/
def IntR (w : World) (B : Nat) (v : Value) (n : Nat) (C : Nat → Int) : Prop := w.ownsRow B 3 1 v n ((List.range n).map fun i => .int .i64 (C i))
theorem IntR.below {w w' : World} {B : Nat} {v : Value} {n : Nat} {C : Nat → Int} (h : IntR w B v n C) (hb : Below w.heap.size w w') : IntR w' B v n C := ownsRow_belowD h hb
theorem IntR.onlyB {w w' : World} {B b : Nat} {v : Value} {n : Nat} {C : Nat → Int} (h : IntR w B v n C) (ho : OnlyB b w w') (hne : v.ownBlock ≠ some b) : IntR w' B v n C := ownsRow_onlyB h ho hne
theorem IntR.lt {w : World} {B : Nat} {v : Value} {n : Nat} {C : Nat → Int} (h : IntR w B v n C) (g : Nat) (e : v.ownBlock = some g) : B ≤ g ∧ g < w.heap.size := World.ownsRow.lt h g e
theorem IntR.mono {w : World} {B B' : Nat} {v : Value} {n : Nat} {C : Nat → Int} (h : IntR w B v n C) (hb : B' ≤ B) : IntR w B' v n C := by
  obtain ⟨hl, h0 | ⟨g, cap, cur, hv, h1, h2⟩⟩ := h
  · exact ⟨hl, .inl h0⟩
  · exact ⟨hl, .inr ⟨g, cap, cur, hv, Nat.le_trans hb h1, h2⟩⟩
theorem Tryd.infoIntA : (Tryd.prog.info? 3).map (fun i => (i.zero, i.size, i.bytes)) = some (some (.int .i64 0), 1, 8) := by kernel_rfl
set_option maxRecDepth 100000 in
/-- append of one number to a row of the call's own. -/
theorem appIn (w : World) (B : Nat) (v : Value) (n : Nat) (C : Nat → Int) (g : Nat) (ty : TypeId) (hB : B ≤ w.heap.size) (hn : n ≤ 1000000) (h : IntR w B v n C) (hc : w.cell? ⟨g, 0, none⟩ = some (.int .i64 (C n))) :
    ∃ v' w', (Builtin.append_ #[28, 28] ty #[v, .slice (some ⟨g, 0, none⟩) 1 1]).run Tryd.prog w = .ok v' w' ∧ IntR w' B v' (n + 1) C ∧ w.grownBy w' v.ownBlock ∧ (v'.ownBlock = v.ownBlock ∨ v'.ownBlock = some w.heap.size) := by
  obtain ⟨i, hi, hz, hsz, hby⟩ := info_parts Tryd.infoIntA
  obtain ⟨v', w', hr, ho, hg, _, hloc⟩ := run_append_own_at (P := Tryd.prog) w B 28 ty 3 i (.int .i64 0) 1 8 Tryd.underlying28 hi hz hsz hby rfl (by decide) v n _ h ⟨g, 0, none⟩ 1 1 [.int .i64 (C n)] rfl (fun j u hj => by
    match j, hj with
    | 0, hj => cases hj; rw [show ((⟨g, 0, none⟩ : Addr).add 0) = ⟨g, 0, none⟩ from rfl]; exact hc) (fun u hu => by simp at hu; rw [hu]; rfl) (by unfold maxLen; omega) (by omega) hB
  exact ⟨v', w', hr, by unfold IntR; rw [List.range_succ, List.map_append]; exact ho, hg, hloc⟩
/-- A slice does not lie in block g. -/
def Ap (g : Nat) (a : Option Addr) : Prop := ∀ b o s, a = some ⟨b, o, s⟩ → b ≠ g
theorem Ap.fr {w : World} {g B : Nat} {x a : Option Addr} (h : Ap g x) (hf : Fr w B x a) (hg : g < B) : Ap g a := by
  rcases hf with rfl | rfl | ⟨k, rfl, hk, -⟩
  · exact h
  · exact fun b o s e => by cases e
  · exact fun b o s e => by cases e; omega
/-- A disk's rows lie in blocks that are there, or are empty. -/
theorem Strs.grown {w w' : World} {v : Option Nat} {a : Option Addr} {n : Nat} {f : Nat → ByteArray} (h : Strs w a n f) (hg : w.grownBy w' v) (hap : ∀ g, v = some g → Ap g a) : Strs w' a n f := fun i hi => by
  obtain ⟨b, off, ha, hc⟩ := h i hi
  refine ⟨b, off, ha, ?_⟩
  rw [← hc]
  exact cellOf (hg.block b (strBlock hc) (fun e => hap b e.symm b off none ha rfl))
theorem Pens.grown {w w' : World} {v : Option Nat} {a : Option Addr} {n : Nat} {A : Nat → Int} {D : Nat → ByteArray} (h : Pens w a n A D) (hg : w.grownBy w' v) (hap : ∀ g, v = some g → Ap g a) : Pens w' a n A D := fun i hi => by
  obtain ⟨b, off, ha, hc, hd⟩ := h i hi
  have e := hg.block b (strBlock hc) (fun e => hap b e.symm b off none ha rfl)
  exact ⟨b, off, ha, by rw [← hc]; exact cellOf e, by rw [← hd]; exact cellOf e⟩
theorem DiskV.grown {w w' : World} {v : Option Nat} {d : Dk} {a0 a1 a2 : Option Addr} (h : DiskV w d a0 a1 a2) (hg : w.grownBy w' v) (hap : ∀ g, v = some g → Ap g a0 ∧ Ap g a1 ∧ Ap g a2) : DiskV w' d a0 a1 a2 := ⟨h.1.grown hg (fun g e => (hap g e).1), h.2.1.grown hg (fun g e => (hap g e).2.1), h.2.2.grown hg (fun g e => (hap g e).2.2)⟩
/-- A slice lies in a block that is there. -/
def Lw (n : Nat) (a : Option Addr) : Prop := ∀ b o s, a = some ⟨b, o, s⟩ → b < n
theorem Lw.mono {n m : Nat} {a : Option Addr} (h : Lw n a) (hm : n ≤ m) : Lw m a := fun b o s e => Nat.lt_of_lt_of_le (h b o s e) hm
theorem Lw.ap {n g : Nat} {a : Option Addr} (h : Lw n a) (hg : n ≤ g) : Ap g a := fun b o s e => by have := h b o s e; omega
theorem Lw.fr {w : World} {n B : Nat} {x a : Option Addr} (h : Lw n x) (hn : n ≤ w.heap.size) (hf : Fr w B x a) : Lw w.heap.size a := by
  rcases hf with rfl | rfl | ⟨k, rfl, -, hk⟩
  · exact h.mono hn
  · exact fun b o s e => by cases e
  · exact fun b o s e => by cases e; exact hk
/-- d behind the first q acts. -/
def runD (d : Dk) (A : Nat → Ac) : Nat → Dk
  | 0 => d
  | q + 1 => (runD d A q).done (A q)
/-- The code of act q. -/
def runC (d : Dk) (A : Nat → Ac) (q : Nat) : Int := codeF ((runD d A q).fault (A q))
theorem runD_ok {d : Dk} (hd : d.Ok) (A : Nat → Ac) : ∀ q, (runD d A q).Ok
  | 0 => hd
  | q + 1 => Dk.done_ok (runD_ok hd A q) (A q)
/-- What holds a text or a number is not where a slice lies. -/
theorem Strs.setAt {w : World} {a : Option Addr} {n : Nat} {f : Nat → ByteArray} (h : Strs w a n f) {p : Addr} {x : Option Addr} {y z : Nat} (hp : w.cell? p = some (.slice x y z)) (v : Value) : Strs (w.setCell p v) a n f := fun i hi => by
  obtain ⟨b, off, ha, hc⟩ := h i hi
  refine ⟨b, off, ha, ?_⟩
  rw [World.cell?_setCell_other _ _ _ _ (fun e => by rw [← e, hp] at hc; cases hc)]
  exact hc
theorem Pens.setAt {w : World} {a : Option Addr} {n : Nat} {A : Nat → Int} {D : Nat → ByteArray} (h : Pens w a n A D) {p : Addr} {x : Option Addr} {y z : Nat} (hp : w.cell? p = some (.slice x y z)) (v : Value) : Pens (w.setCell p v) a n A D := fun i hi => by
  obtain ⟨b, off, ha, hc, hd⟩ := h i hi
  refine ⟨b, off, ha, ?_, ?_⟩
  · rw [World.cell?_setCell_other _ _ _ _ (fun e => by rw [← e, hp] at hc; cases hc)]
    exact hc
  · rw [World.cell?_setCell_other _ _ _ _ (fun e => by rw [← e, hp] at hd; cases hd)]
    exact hd
theorem DiskV.setAt {w : World} {d : Dk} {a0 a1 a2 : Option Addr} (h : DiskV w d a0 a1 a2) {p : Addr} {x : Option Addr} {y z : Nat} (hp : w.cell? p = some (.slice x y z)) (v : Value) : DiskV (w.setCell p v) d a0 a1 a2 := ⟨h.1.setAt hp v, h.2.1.setAt hp v, h.2.2.setAt hp v⟩
/-- A disk in a variable of its own, behind a store of slices. -/
theorem DiskV.stored {w : World} {d : Dk} {a0 a1 a2 : Option Addr} (h : DiskV w d a0 a1 a2) {b : Nat} {t : TypeId} {x0 x1 x2 : Option Addr} {y0 y1 y2 z0 z1 z2 : Nat} (hb : Box3 w b t (.slice x0 y0 z0) (.slice x1 y1 z1) (.slice x2 y2 z2)) (v0 v1 v2 : Value) : DiskV (w.setCells b 0 [v0, v1, v2]) d a0 a1 a2 := by
  have h0 := h.setAt (p := ⟨b, 0, none⟩) hb.c0 v0
  have e1 : (w.setCell ⟨b, 0, none⟩ v0).cell? ⟨b, 1, none⟩ = some (.slice x1 y1 z1) := (World.cell?_setCell_other _ ⟨b, 0, none⟩ ⟨b, 1, none⟩ _ (fun q => by have := congrArg Addr.off q; simp at this)).trans hb.c1
  have h1 := h0.setAt e1 v1
  have e2 : ((w.setCell ⟨b, 0, none⟩ v0).setCell ⟨b, 1, none⟩ v1).cell? ⟨b, 2, none⟩ = some (.slice x2 y2 z2) := (World.cell?_setCell_other _ ⟨b, 1, none⟩ ⟨b, 2, none⟩ _ (fun q => by have := congrArg Addr.off q; simp at this)).trans ((World.cell?_setCell_other _ ⟨b, 0, none⟩ ⟨b, 2, none⟩ _ (fun q => by have := congrArg Addr.off q; simp at this)).trans hb.c2)
  exact h1.setAt e2 v2
end Go.Proofs.YtgdfhgepbamhmaaDoor
