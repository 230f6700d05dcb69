/-
  Slices of acts; rows of codes; a disk behind acts.
-/
import Derived.Test.YtkhglllicblbbaaDoorKeeps
import Derived.Test.YtkhglllicblbbaaDoorDoneOk
import Derived.Test.YtkhglllicblbbaaDoorSpecDs
import Derived.Test.YtkhglllicblbbaaDoorM01
import Derived.Test.YtkhglllicblbbaaDoorActTo
namespace Go.Proofs.YtkhglllicblbbaaDoor
open Go.ChangeShapes Go.WideShapes Go.ChangeAt Go.RowKit
set_option linter.unusedVariables false
/-- The five cells of an act. -/
structure ActC (w : World) (b o : Nat) (a : Ac) (ak : Option Addr) (ck : Nat) : Prop where
  c0 : w.cell? ⟨b, o, none⟩ = some (.int .i64 a.kd)
  c1 : w.cell? ⟨b, o + 1, none⟩ = some (.int .i64 a.x)
  c2 : w.cell? ⟨b, o + 2, none⟩ = some (.string a.s)
  c3 : w.cell? ⟨b, o + 3, none⟩ = some (.slice ak a.nk ck)
  c4 : w.cell? ⟨b, o + 4, none⟩ = some (.int .i64 a.t)
theorem ActC.lt {w : World} {b o : Nat} {a : Ac} {ak : Option Addr} {ck : Nat} (h : ActC w b o a ak ck) : b < w.heap.size := strBlock h.c0
theorem ActC.below {w w' : World} {b o : Nat} {a : Ac} {ak : Option Addr} {ck : Nat} (h : ActC w b o a ak ck) (hb : Below w.heap.size w w') : ActC w' b o a ak ck := ⟨(hb.cell (p := ⟨b, o, none⟩) h.lt).trans h.c0, (hb.cell (p := ⟨b, o + 1, none⟩) h.lt).trans h.c1, (hb.cell (p := ⟨b, o + 2, none⟩) h.lt).trans h.c2, (hb.cell (p := ⟨b, o + 3, none⟩) h.lt).trans h.c3, (hb.cell (p := ⟨b, o + 4, none⟩) h.lt).trans h.c4⟩
theorem ActC.of_block {w w' : World} {b o : Nat} {a : Ac} {ak : Option Addr} {ck : Nat} (h : ActC w b o a ak ck) (e : w'.heap[b]? = w.heap[b]?) : ActC w' b o a ak ck := ⟨by rw [← h.c0]; exact cellOf e, by rw [← h.c1]; exact cellOf e, by rw [← h.c2]; exact cellOf e, by rw [← h.c3]; exact cellOf e, by rw [← h.c4]; exact cellOf e⟩
/-- A slice of n acts. -/
def Acts (w : World) (ad : Option Addr) (n : Nat) (A : Nat → Ac) : Prop := ∀ i, i < n → ∃ b off ak ck, ad = some ⟨b, off, none⟩ ∧ ActC w b (off + i * 5) (A i) ak ck ∧ Bools w ak (A i).nk (A i).K
theorem Acts.below {w w' : World} {ad : Option Addr} {n : Nat} {A : Nat → Ac} (h : Acts w ad n A) (hb : Below w.heap.size w w') : Acts w' ad n A := fun i hi => by
  obtain ⟨b, off, ak, ck, ha, h1, h2⟩ := h i hi
  exact ⟨b, off, ak, ck, ha, h1.below hb, h2.below hb⟩
theorem Acts.opened {w : World} {ad : Option Addr} {n : Nat} {A : Nat → Ac} (h : Acts w ad n A) (hn : 0 < n) : ∃ b off, ad = some ⟨b, off, none⟩ ∧ ∀ i, i < n → ∃ ak ck, ActC w b (off + i * 5) (A i) ak ck ∧ Bools w ak (A i).nk (A i).K := by
  obtain ⟨b, off, _, _, rfl, _⟩ := h 0 hn
  refine ⟨b, off, rfl, fun i hi => ?_⟩
  obtain ⟨b', off', ak, ck, e, h1, h2⟩ := h i hi
  cases e
  exact ⟨ak, ck, h1, h2⟩
/-- A row of n numbers of the call's own. -/
def IntR (w : World) (B : Nat) (v : Value) (n : Nat) (C : Nat → Int) : Prop := w.ownsRow B 3 1 v n ((List.range n).map fun i => .int .i64 (C i))
theorem IntR.below {w w' : World} {B : Nat} {v : Value} {n : Nat} {C : Nat → Int} (h : IntR w B v n C) (hb : Below w.heap.size w w') : IntR w' B v n C := ownsRow_belowD h hb
theorem IntR.onlyB {w w' : World} {B b : Nat} {v : Value} {n : Nat} {C : Nat → Int} (h : IntR w B v n C) (ho : OnlyB b w w') (hne : v.ownBlock ≠ some b) : IntR w' B v n C := ownsRow_onlyB h ho hne
theorem IntR.lt {w : World} {B : Nat} {v : Value} {n : Nat} {C : Nat → Int} (h : IntR w B v n C) (g : Nat) (e : v.ownBlock = some g) : B ≤ g ∧ g < w.heap.size := World.ownsRow.lt h g e
theorem IntR.mono {w : World} {B B' : Nat} {v : Value} {n : Nat} {C : Nat → Int} (h : IntR w B v n C) (hb : B' ≤ B) : IntR w B' v n C := by
  obtain ⟨hl, h0 | ⟨g, cap, cur, hv, h1, h2⟩⟩ := h
  · exact ⟨hl, .inl h0⟩
  · exact ⟨hl, .inr ⟨g, cap, cur, hv, Nat.le_trans hb h1, h2⟩⟩
theorem Tryd.infoIntA : (Tryd.prog.info? 3).map (fun i => (i.zero, i.size, i.bytes)) = some (some (.int .i64 0), 1, 8) := by kernel_rfl
set_option maxRecDepth 100000 in
/-- append of one number to a row of the call's own. -/
theorem appIn (w : World) (B : Nat) (v : Value) (n : Nat) (C : Nat → Int) (g : Nat) (ty : TypeId) (hB : B ≤ w.heap.size) (hn : n ≤ 1000000) (h : IntR w B v n C) (hc : w.cell? ⟨g, 0, none⟩ = some (.int .i64 (C n))) :
    ∃ v' w', (Builtin.append_ #[29, 29] ty #[v, .slice (some ⟨g, 0, none⟩) 1 1]).run Tryd.prog w = .ok v' w' ∧ IntR w' B v' (n + 1) C ∧ w.grownBy w' v.ownBlock ∧ (v'.ownBlock = v.ownBlock ∨ v'.ownBlock = some w.heap.size) := by
  obtain ⟨i, hi, hz, hsz, hby⟩ := info_parts Tryd.infoIntA
  obtain ⟨v', w', hr, ho, hg, _, hloc⟩ := run_append_own_at (P := Tryd.prog) w B 29 ty 3 i (.int .i64 0) 1 8 Tryd.underlying29 hi hz hsz hby rfl (by decide) v n _ h ⟨g, 0, none⟩ 1 1 [.int .i64 (C n)] rfl (fun j u hj => by
    match j, hj with
    | 0, hj => cases hj; rw [show ((⟨g, 0, none⟩ : Addr).add 0) = ⟨g, 0, none⟩ from rfl]; exact hc) (fun u hu => by simp at hu; rw [hu]; rfl) (by unfold maxLen; omega) (by omega) hB
  exact ⟨v', w', hr, by unfold IntR; rw [List.range_succ, List.map_append]; exact ho, hg, hloc⟩
/-- A slice does not lie in block g. -/
def Ap (g : Nat) (a : Option Addr) : Prop := ∀ b o s, a = some ⟨b, o, s⟩ → b ≠ g
theorem Ap.fr {w : World} {g B : Nat} {x a : Option Addr} (h : Ap g x) (hf : Fr w B x a) (hg : g < B) : Ap g a := by
  rcases hf with rfl | rfl | ⟨k, rfl, hk, -⟩
  · exact h
  · exact fun b o s e => by cases e
  · exact fun b o s e => by cases e; omega
/-- A disk's rows lie in blocks that are there, or are empty. -/
theorem Strs.grown {w w' : World} {v : Option Nat} {a : Option Addr} {n : Nat} {f : Nat → ByteArray} (h : Strs w a n f) (hg : w.grownBy w' v) (hap : ∀ g, v = some g → Ap g a) : Strs w' a n f := fun i hi => by
  obtain ⟨b, off, ha, hc⟩ := h i hi
  refine ⟨b, off, ha, ?_⟩
  rw [← hc]
  exact cellOf (hg.block b (strBlock hc) (fun e => hap b e.symm b off none ha rfl))
theorem Pens.grown {w w' : World} {v : Option Nat} {a : Option Addr} {n : Nat} {A : Nat → Int} {D : Nat → ByteArray} (h : Pens w a n A D) (hg : w.grownBy w' v) (hap : ∀ g, v = some g → Ap g a) : Pens w' a n A D := fun i hi => by
  obtain ⟨b, off, ha, hc, hd⟩ := h i hi
  have e := hg.block b (strBlock hc) (fun e => hap b e.symm b off none ha rfl)
  exact ⟨b, off, ha, by rw [← hc]; exact cellOf e, by rw [← hd]; exact cellOf e⟩
theorem DiskV.grown {w w' : World} {v : Option Nat} {d : Dk} {a0 a1 a2 : Option Addr} (h : DiskV w d a0 a1 a2) (hg : w.grownBy w' v) (hap : ∀ g, v = some g → Ap g a0 ∧ Ap g a1 ∧ Ap g a2) : DiskV w' d a0 a1 a2 := ⟨h.1.grown hg (fun g e => (hap g e).1), h.2.1.grown hg (fun g e => (hap g e).2.1), h.2.2.grown hg (fun g e => (hap g e).2.2)⟩
/-- A slice lies in a block that is there. -/
def Lw (n : Nat) (a : Option Addr) : Prop := ∀ b o s, a = some ⟨b, o, s⟩ → b < n
theorem Lw.mono {n m : Nat} {a : Option Addr} (h : Lw n a) (hm : n ≤ m) : Lw m a := fun b o s e => Nat.lt_of_lt_of_le (h b o s e) hm
theorem Lw.ap {n g : Nat} {a : Option Addr} (h : Lw n a) (hg : n ≤ g) : Ap g a := fun b o s e => by have := h b o s e; omega
theorem Lw.fr {w : World} {n B : Nat} {x a : Option Addr} (h : Lw n x) (hn : n ≤ w.heap.size) (hf : Fr w B x a) : Lw w.heap.size a := by
  rcases hf with rfl | rfl | ⟨k, rfl, -, hk⟩
  · exact h.mono hn
  · exact fun b o s e => by cases e
  · exact fun b o s e => by cases e; exact hk
/-- d behind the first q acts. -/
def runD (d : Dk) (A : Nat → Ac) : Nat → Dk
  | 0 => d
  | q + 1 => (runD d A q).done (A q)
/-- The code of act q. -/
def runC (d : Dk) (A : Nat → Ac) (q : Nat) : Int := codeF ((runD d A q).fault (A q))
theorem runD_ok {d : Dk} (hd : d.Ok) (A : Nat → Ac) : ∀ q, (runD d A q).Ok
  | 0 => hd
  | q + 1 => Dk.done_ok (runD_ok hd A q) (A q)
/-- What holds a text or a number is not where a slice lies. -/
theorem Strs.setAt {w : World} {a : Option Addr} {n : Nat} {f : Nat → ByteArray} (h : Strs w a n f) {p : Addr} {x : Option Addr} {y z : Nat} (hp : w.cell? p = some (.slice x y z)) (v : Value) : Strs (w.setCell p v) a n f := fun i hi => by
  obtain ⟨b, off, ha, hc⟩ := h i hi
  refine ⟨b, off, ha, ?_⟩
  rw [World.cell?_setCell_other _ _ _ _ (fun e => by rw [← e, hp] at hc; cases hc)]
  exact hc
theorem Pens.setAt {w : World} {a : Option Addr} {n : Nat} {A : Nat → Int} {D : Nat → ByteArray} (h : Pens w a n A D) {p : Addr} {x : Option Addr} {y z : Nat} (hp : w.cell? p = some (.slice x y z)) (v : Value) : Pens (w.setCell p v) a n A D := fun i hi => by
  obtain ⟨b, off, ha, hc, hd⟩ := h i hi
  refine ⟨b, off, ha, ?_, ?_⟩
  · rw [World.cell?_setCell_other _ _ _ _ (fun e => by rw [← e, hp] at hc; cases hc)]
    exact hc
  · rw [World.cell?_setCell_other _ _ _ _ (fun e => by rw [← e, hp] at hd; cases hd)]
    exact hd
theorem DiskV.setAt {w : World} {d : Dk} {a0 a1 a2 : Option Addr} (h : DiskV w d a0 a1 a2) {p : Addr} {x : Option Addr} {y z : Nat} (hp : w.cell? p = some (.slice x y z)) (v : Value) : DiskV (w.setCell p v) d a0 a1 a2 := ⟨h.1.setAt hp v, h.2.1.setAt hp v, h.2.2.setAt hp v⟩
/-- A disk in a variable of its own, behind a store of slices. -/
theorem DiskV.stored {w : World} {d : Dk} {a0 a1 a2 : Option Addr} (h : DiskV w d a0 a1 a2) {b : Nat} {t : TypeId} {x0 x1 x2 : Option Addr} {y0 y1 y2 z0 z1 z2 : Nat} (hb : Box3 w b t (.slice x0 y0 z0) (.slice x1 y1 z1) (.slice x2 y2 z2)) (v0 v1 v2 : Value) : DiskV (w.setCells b 0 [v0, v1, v2]) d a0 a1 a2 := by
  have h0 := h.setAt (p := ⟨b, 0, none⟩) hb.c0 v0
  have e1 : (w.setCell ⟨b, 0, none⟩ v0).cell? ⟨b, 1, none⟩ = some (.slice x1 y1 z1) := (World.cell?_setCell_other _ ⟨b, 0, none⟩ ⟨b, 1, none⟩ _ (fun q => by have := congrArg Addr.off q; simp at this)).trans hb.c1
  have h1 := h0.setAt e1 v1
  have e2 : ((w.setCell ⟨b, 0, none⟩ v0).setCell ⟨b, 1, none⟩ v1).cell? ⟨b, 2, none⟩ = some (.slice x2 y2 z2) := (World.cell?_setCell_other _ ⟨b, 1, none⟩ ⟨b, 2, none⟩ _ (fun q => by have := congrArg Addr.off q; simp at this)).trans ((World.cell?_setCell_other _ ⟨b, 0, none⟩ ⟨b, 2, none⟩ _ (fun q => by have := congrArg Addr.off q; simp at this)).trans hb.c2)
  exact h1.setAt e2 v2
end Go.Proofs.YtkhglllicblbbaaDoor

/-
  The model's draw of acts on a disk.
-/
namespace Go.Proofs.YtkhglllicblbbaaDoor
open Go.ChangeShapes Go.WideShapes Go.ChangeAt Go.RowKit
set_option linter.unusedVariables false
def updF {T : Type} (f : Nat → T) (k : Nat) (x : T) (i : Nat) : T := if i = k then x else f i
theorem updF_same {T : Type} (f : Nat → T) (k : Nat) (x : T) : updF f k x k = x := if_pos rfl
theorem updF_ne {T : Type} (f : Nat → T) (k : Nat) (x : T) {i : Nat} (h : i ≠ k) : updF f k x i = f i := if_neg h
/-- The cells of a row of acts. -/
def actC (A : Nat → Ac) (AK : Nat → Option Addr) (CK : Nat → Nat) (i : Nat) : Value := if i % 5 = 0 then .int .i64 (A (i / 5)).kd else if i % 5 = 1 then .int .i64 (A (i / 5)).x else if i % 5 = 2 then .string (A (i / 5)).s else if i % 5 = 3 then .slice (AK (i / 5)) (A (i / 5)).nk (CK (i / 5)) else .int .i64 (A (i / 5)).t
theorem actC_at (A : Nat → Ac) (AK : Nat → Option Addr) (CK : Nat → Nat) (k : Nat) : actC A AK CK (k * 5) = .int .i64 (A k).kd ∧ actC A AK CK (k * 5 + 1) = .int .i64 (A k).x ∧ actC A AK CK (k * 5 + 2) = .string (A k).s ∧ actC A AK CK (k * 5 + 3) = .slice (AK k) (A k).nk (CK k) ∧ actC A AK CK (k * 5 + 4) = .int .i64 (A k).t := by
  unfold actC
  rw [show k * 5 / 5 = k from by omega, show (k * 5 + 1) / 5 = k from by omega, show (k * 5 + 2) / 5 = k from by omega, show (k * 5 + 3) / 5 = k from by omega, show (k * 5 + 4) / 5 = k from by omega, show k * 5 % 5 = 0 from by omega, show (k * 5 + 1) % 5 = 1 from by omega, show (k * 5 + 2) % 5 = 2 from by omega, show (k * 5 + 3) % 5 = 3 from by omega, show (k * 5 + 4) % 5 = 4 from by omega]
  exact ⟨rfl, rfl, rfl, rfl, rfl⟩
theorem actC_ext (A : Nat → Ac) (AK : Nat → Option Addr) (CK : Nat → Nat) (k : Nat) (x : Ac) (ak : Option Addr) (ck : Nat) : (List.range (k * 5)).map (actC A AK CK) ++ [.int .i64 x.kd, .int .i64 x.x, .string x.s, .slice ak x.nk ck, .int .i64 x.t] = (List.range ((k + 1) * 5)).map (actC (updF A k x) (updF AK k ak) (updF CK k ck)) := by
  obtain ⟨e0, e1, e2, e3, e4⟩ := actC_at (updF A k x) (updF AK k ak) (updF CK k ck) k
  rw [updF_same] at e0 e1 e2 e3 e4
  rw [updF_same, updF_same] at e3
  rw [show (k + 1) * 5 = k * 5 + 1 + 1 + 1 + 1 + 1 from by omega, List.range_succ, List.range_succ, List.range_succ, List.range_succ, List.range_succ]
  simp only [List.map_append, List.map_cons, List.map_nil, List.append_assoc, List.cons_append, List.nil_append]
  rw [show k * 5 + 1 + 1 = k * 5 + 2 from rfl, show k * 5 + 2 + 1 = k * 5 + 3 from rfl, show k * 5 + 3 + 1 = k * 5 + 4 from rfl, e0, e1, e2, e3, e4]
  congr 1
  exact List.map_congr_left (fun i hi => by
    have := List.mem_range.1 hi
    unfold actC
    rw [updF_ne _ _ _ (show i / 5 ≠ k by omega), updF_ne _ _ _ (show i / 5 ≠ k by omega), updF_ne _ _ _ (show i / 5 ≠ k by omega)])
/-- A slice of n acts in a row of the call's own. -/
def AcR (w : World) (B : Nat) (v : Value) (n : Nat) (A : Nat → Ac) (AK : Nat → Option Addr) (CK : Nat → Nat) : Prop := w.ownsRow B 38 5 v n ((List.range (n * 5)).map (actC A AK CK))
theorem Tryd.infoDAc : (Tryd.prog.info? 38).map (fun i => (i.zero, i.size, i.bytes)) = some (some (.agg #[.int .i64 0, .int .i64 0, .string ⟨#[]⟩, .slice none 0 0, .int .i64 0]), 5, 64) := by kernel_rfl
theorem AcR.lit (w : World) (B : Nat) (hB : B ≤ w.heap.size) (A : Nat → Ac) (AK : Nat → Option Addr) (CK : Nat → Nat) : AcR (w.alloc (.cells #[] 38)) B (.slice (some ⟨w.heap.size, 0, none⟩) 0 0) 0 A AK CK := World.ownsRow_made w #[] 0 hB (Nat.zero_le _) rfl
theorem AcR.cells {w : World} {B g n c : Nat} {A : Nat → Ac} {AK : Nat → Option Addr} {CK : Nat → Nat} (h : AcR w B (.slice (some ⟨g, 0, none⟩) n c) n A AK CK) : ∀ i, i < n → ActC w g (0 + i * 5) (A i) (AK i) (CK i) := by
  obtain ⟨hl, ⟨h1, h2⟩ | ⟨g', cap, cur, hv, hB, hh, hn, hm, hs, ht⟩⟩ := h
  · cases h1
  · cases hv
    have each : ∀ i, i < n * 5 → w.cell? ⟨g, i, none⟩ = some (actC A AK CK i) := fun i hi => by
      have h1 : (cur.toList.take (n * 5))[i]? = some (actC A AK CK i) := by rw [ht]; simp [hi]
      rw [List.getElem?_take, if_pos (by omega), Array.getElem?_toList] at h1
      simp [World.cell?, hh, h1]
    intro i hi
    obtain ⟨e0, e1, e2, e3, e4⟩ := actC_at A AK CK i
    rw [Nat.zero_add]
    exact ⟨(each _ (by omega)).trans (by rw [e0]), (each _ (by omega)).trans (by rw [e1]), (each _ (by omega)).trans (by rw [e2]), (each _ (by omega)).trans (by rw [e3]), (each _ (by omega)).trans (by rw [e4])⟩
set_option maxRecDepth 100000 in
/-- append of one act. -/
theorem appAc (w : World) (B g n c : Nat) (A : Nat → Ac) (AK : Nat → Option Addr) (CK : Nat → Nat) (q : Nat) (x : Ac) (ak : Option Addr) (ck : Nat) (ty : TypeId) (hB : B ≤ w.heap.size) (hn : n ≤ 1000000) (h : AcR w B (.slice (some ⟨g, 0, none⟩) n c) n A AK CK) (hx : ActC w q 0 x ak ck) :
    ∃ g' c' w', (Builtin.append_ #[23, 23] ty #[.slice (some ⟨g, 0, none⟩) n c, .slice (some ⟨q, 0, none⟩) 1 1]).run Tryd.prog w = .ok (.slice (some ⟨g', 0, none⟩) (n + 1) c') w' ∧ AcR w' B (.slice (some ⟨g', 0, none⟩) (n + 1) c') (n + 1) (updF A n x) (updF AK n ak) (updF CK n ck) ∧ OnlyB g w w' ∧ (g' = g ∨ g' = w.heap.size) := by
  obtain ⟨i, hi, hz, hsz, hby⟩ := info_parts Tryd.infoDAc
  obtain ⟨v', w', hr, ho, hg, hne, hloc⟩ := run_append_own_at (P := Tryd.prog) w B 23 ty 38 i _ 5 64 Tryd.underlying23 hi hz hsz hby rfl (by decide) _ n _ h ⟨q, 0, none⟩ 1 1 [.int .i64 x.kd, .int .i64 x.x, .string x.s, .slice ak x.nk ck, .int .i64 x.t] rfl (fun j u hj => by
    rw [show ((⟨q, 0, none⟩ : Addr).add j) = ⟨q, 0 + j, none⟩ from Go.WideShapes.add_plain _ _ _]
    match j, hj with
    | 0, hj => cases hj; exact hx.c0
    | 1, hj => cases hj; exact hx.c1
    | 2, hj => cases hj; exact hx.c2
    | 3, hj => cases hj; exact hx.c3
    | 4, hj => cases hj; exact hx.c4) (fun u hu => by
      simp at hu
      rcases hu with rfl | rfl | rfl | rfl | rfl <;> rfl) (by unfold maxLen; omega) (by omega) hB
  rw [actC_ext] at ho
  have hform : ∃ g2 c2, v' = .slice (some ⟨g2, 0, none⟩) (n + 1) c2 := by
    obtain ⟨hl, ⟨h1, h2⟩ | ⟨g', cap, cur, hv, _⟩⟩ := ho
    · omega
    · exact ⟨g', cap, hv⟩
  obtain ⟨g2, c2, rfl⟩ := hform
  refine ⟨g2, c2, w', hr, ho, grown_only hg, ?_⟩
  rcases hloc with e | e
  · exact .inl (Option.some.inj e)
  · exact .inr (Option.some.inj e)
end Go.Proofs.YtkhglllicblbbaaDoor

/-
  The model's draw of acts on a disk: the loop.
-/
namespace Go.Proofs.YtkhglllicblbbaaDoor
open Go.ChangeShapes Go.WideShapes Go.ChangeAt Go.RowKit
set_option linter.unusedVariables false
/-- The flags of n acts lie in rows of the call's own, not in block g. -/
def FlR (w : World) (B g n : Nat) (A : Nat → Ac) (AK : Nat → Option Addr) : Prop := ∀ i, i < n → Bools w (AK i) (A i).nk (A i).K ∧ (∀ b o s, AK i = some ⟨b, o, s⟩ → B ≤ b ∧ b < w.heap.size ∧ b ≠ g) ∧ (A i).s.size ≤ 65536 ∧ (A i).nk ≤ 4096
theorem Bools.keepD {w w' : World} {a : Option Addr} {n : Nat} {f : Nat → Bool} (h : Bools w a n f) (hk : ∀ b o s, a = some ⟨b, o, s⟩ → w'.heap[b]? = w.heap[b]?) : Bools w' a n f := fun i hi => by
  obtain ⟨b, off, ha, hc⟩ := h i hi
  exact ⟨b, off, ha, (World.cell?_of_block (w := w) (hk b off none ha)).trans hc⟩
theorem FlR.keep {w w' : World} {B g n : Nat} {A : Nat → Ac} {AK : Nat → Option Addr} (h : FlR w B g n A AK) (hs : w.heap.size ≤ w'.heap.size) (hk : ∀ b, B ≤ b → b < w.heap.size → b ≠ g → w'.heap[b]? = w.heap[b]?) : FlR w' B g n A AK := fun i hi => by
  obtain ⟨h1, h2, h3⟩ := h i hi
  refine ⟨h1.keepD (fun b o s e => ?_), fun b o s e => ?_, h3⟩
  · obtain ⟨q1, q2, q3⟩ := h2 b o s e
    exact hk b q1 q2 q3
  · obtain ⟨q1, q2, q3⟩ := h2 b o s e
    exact ⟨q1, Nat.lt_of_lt_of_le q2 hs, q3⟩
theorem FlR.onlyB {w w' : World} {B g n b : Nat} {A : Nat → Ac} {AK : Nat → Option Addr} (h : FlR w B g n A AK) (ho : OnlyB b w w') (hb : b < B) : FlR w' B g n A AK := h.keep ho.size (fun k h1 h2 _ => ho.block k h2 (by omega))
theorem FlR.below {w w' : World} {B g n : Nat} {A : Nat → Ac} {AK : Nat → Option Addr} (h : FlR w B g n A AK) (hb : Below w.heap.size w w') : FlR w' B g n A AK := h.keep hb.size (fun k h1 h2 _ => hb.block k h2)
theorem FlR.snoc {w w' : World} {B g g' n : Nat} {A : Nat → Ac} {AK : Nat → Option Addr} (h : FlR w B g n A AK) (ho : OnlyB g w w') (hg : g' = g ∨ g' = w.heap.size) (x : Ac) (ak : Option Addr) (hx : Bools w ak x.nk x.K) (hak : ∀ b o s, ak = some ⟨b, o, s⟩ → B ≤ b ∧ b < w.heap.size ∧ b ≠ g) (h3 : x.s.size ≤ 65536) (h4 : x.nk ≤ 4096) : FlR w' B g' (n + 1) (updF A n x) (updF AK n ak) := fun i hi => by
  have ne : ∀ b, b < w.heap.size → b ≠ g → b ≠ g' := fun b h1 h2 => by rcases hg with rfl | rfl <;> omega
  by_cases e : i = n
  · subst e
    rw [updF_same, updF_same]
    exact ⟨hx.keepD (fun b o s e => by obtain ⟨q1, q2, q3⟩ := hak b o s e; exact ho.block b q2 q3), fun b o s e => by obtain ⟨q1, q2, q3⟩ := hak b o s e; exact ⟨q1, Nat.lt_of_lt_of_le q2 ho.size, ne b q2 q3⟩, h3, h4⟩
  · rw [updF_ne _ _ _ e, updF_ne _ _ _ e]
    obtain ⟨p1, p2, p3⟩ := h i (by omega)
    exact ⟨p1.keepD (fun b o s e => by obtain ⟨q1, q2, q3⟩ := p2 b o s e; exact ho.block b q2 q3), fun b o s e => by obtain ⟨q1, q2, q3⟩ := p2 b o s e; exact ⟨q1, Nat.lt_of_lt_of_le q2 ho.size, ne b q2 q3⟩, p3⟩
theorem acR_onlyB {w w' : World} {B b : Nat} {v : Value} {n : Nat} {A : Nat → Ac} {AK : Nat → Option Addr} {CK : Nat → Nat} (h : AcR w B v n A AK CK) (ho : OnlyB b w w') (hb : b < B) : AcR w' B v n A AK CK := ownsRow_onlyBQ h ho hb
theorem acR_below {w w' : World} {B : Nat} {v : Value} {n : Nat} {A : Nat → Ac} {AK : Nat → Option Addr} {CK : Nat → Nat} (h : AcR w B v n A AK CK) (hb : Below w.heap.size w w') : AcR w' B v n A AK CK := ownsRow_below h hb
theorem FlR.keep2 {w w' : World} {B g n : Nat} {A : Nat → Ac} {AK : Nat → Option Addr} (h : FlR w B g n A AK) (hs : w.heap.size ≤ w'.heap.size) (hk : ∀ i, i < n → ∀ b o s, AK i = some ⟨b, o, s⟩ → w'.heap[b]? = w.heap[b]?) : FlR w' B g n A AK := fun i hi => by
  obtain ⟨h1, h2, h3⟩ := h i hi
  refine ⟨h1.keepD (fun b o s e => hk i hi b o s e), fun b o s e => ?_, h3⟩
  obtain ⟨q1, q2, q3⟩ := h2 b o s e
  exact ⟨q1, Nat.lt_of_lt_of_le q2 hs, q3⟩
/-- The end of a round: the act in box q is appended. -/
theorem tail_ac {w wX W : World} {b g k c q N : Nat} {A : Nat → Ac} {AK : Nat → Option Addr} {CK : Nat → Nat} {a : Option Addr} {len cap : Nat} (kd xv : Int) (s : ByteArray) (ak : Option Addr) (nk ck : Nat) (K : Nat → Bool) (t : Int) (hO : AcR wX w.heap.size (.slice (some ⟨g, 0, none⟩) k c) k A AK CK) (hF : FlR wX w.heap.size g k A AK) (hS : SrcA wX b a len cap N) (hW : OnlyB b w wX) (hbl : b < w.heap.size) (hq : w.heap.size ≤ q) (hgq : g ≠ q) (hFq : ∀ i, i < k → ∀ b o s, AK i = some ⟨b, o, s⟩ → b < q) (hQ : OnlyB q wX W) (hb : Bools wX ak nk K) (hak : ∀ b o s, ak = some ⟨b, o, s⟩ → w.heap.size ≤ b ∧ b < wX.heap.size ∧ b ≠ g ∧ b ≠ q) (h3 : s.size ≤ 65536) (h4 : nk ≤ 4096) (hk : k ≤ 1000) (hWs : W.heap.size = wX.heap.size) :
    ∃ g' c' w', (Builtin.append_ #[23, 23] 23 #[.slice (some ⟨g, 0, none⟩) k c, .slice (some ⟨wX.heap.size, 0, none⟩) 1 1]).run Tryd.prog (W.alloc (.cells #[.int .i64 kd, .int .i64 xv, .string s, .slice ak nk ck, .int .i64 t] 38)) = .ok (.slice (some ⟨g', 0, none⟩) (k + 1) c') w' ∧ AcR w' w.heap.size (.slice (some ⟨g', 0, none⟩) (k + 1) c') (k + 1) (updF A k ⟨kd, xv, s, nk, K, t⟩) (updF AK k ak) (updF CK k ck) ∧ FlR w' w.heap.size g' (k + 1) (updF A k ⟨kd, xv, s, nk, K, t⟩) (updF AK k ak) ∧ SrcA w' b a len cap N ∧ OnlyB b w w' := by
  rw [← hWs]
  have hg := World.ownsRow.lt hO g rfl
  have hsz := hW.size
  have L : Below W.heap.size W (W.alloc (.cells #[.int .i64 kd, .int .i64 xv, .string s, .slice ak nk ck, .int .i64 t] 38)) := (Below.refl _ _).alloc (Nat.le_refl _) _
  have X : Box5 (W.alloc (.cells #[.int .i64 kd, .int .i64 xv, .string s, .slice ak nk ck, .int .i64 t] 38)) W.heap.size 38 (.int .i64 kd) (.int .i64 xv) (.string s) (.slice ak nk ck) (.int .i64 t) := Box5.made _ _ _ _ _ _ _
  generalize W.alloc (.cells #[.int .i64 kd, .int .i64 xv, .string s, .slice ak nk ck, .int .i64 t] 38) = V at *
  have blk : ∀ j, j < wX.heap.size → j ≠ q → V.heap[j]? = wX.heap[j]? := fun j h1 h2 => (L.block j (Nat.lt_of_lt_of_le h1 hQ.size)).trans (hQ.block j h1 h2)
  have hVs : wX.heap.size ≤ V.heap.size := Nat.le_trans hQ.size L.size
  have O1 : AcR V w.heap.size (.slice (some ⟨g, 0, none⟩) k c) k A AK CK := ownsRow_block hO (fun j hj => by cases hj; exact blk g hg.2 hgq)
  have F1 : FlR V w.heap.size g k A AK := hF.keep2 hVs (fun i hi b' o s' e => blk b' ((hF i hi).2.1 b' o s' e).2.1 (by have := hFq i hi b' o s' e; omega))
  have B1 : Bools V ak nk K := hb.keepD (fun b' o s' e => by obtain ⟨_, q2, _, q4⟩ := hak b' o s' e; exact blk b' q2 q4)
  obtain ⟨g', c', w', hr, hr1, hr2, hr3⟩ := appAc V w.heap.size g k c A AK CK W.heap.size ⟨kd, xv, s, nk, K, t⟩ ak ck 23 (by omega) (by omega) O1 ⟨X.c0, X.c1, X.c2, X.c3, X.c4⟩
  refine ⟨g', c', w', hr, hr1, F1.snoc hr2 hr3 ⟨kd, xv, s, nk, K, t⟩ ak B1 (fun b' o s' e => ?_) h3 h4, ?_, ?_⟩
  · obtain ⟨q1, q2, q3, _⟩ := hak b' o s' e
    exact ⟨q1, by omega, q3⟩
  · exact hS.ofBlock ((hr2.block b (by omega) (by omega)).trans (blk b (by omega) (by omega)))
  · exact hW.belowS ((hQ.toBelow hq hsz).trans ((L.mono (by have := hQ.size; omega)).trans (hr2.toBelow hg.1 (by omega)))) (Nat.le_refl _)
/-- Some acts, at a row of the call's own. -/
def SomeAc (B : Nat) (w' : World) (e : Ending) : Prop := ∃ (n : Nat) (A : Nat → Ac) (g c : Nat), n ≤ 120 ∧ e = .returned (.slice (some ⟨g, 0, none⟩) n c) ∧ B ≤ g ∧ Acts w' (some ⟨g, 0, none⟩) n A ∧ ∀ i, i < n → (A i).s.size ≤ 65536 ∧ (A i).nk ≤ 4096
set_option maxRecDepth 100000 in
set_option maxHeartbeats 2000000 in
theorem diskActs_ex (b : Nat) (a : Option Addr) (len cap : Nat) (z : Nat → Nat) (hz : ∀ i, z i < 256) (hl : len ≤ maxLen) (hsep : ∀ x, 0 < len → a = some x → x.block ≠ b) (w : World) (h : SrcA w b a len cap 0) (hc : Code8 w a len z) :
    Calls Tryd.prog 42 #[.pointer (some ⟨b, 0, none⟩), .int .i64 4] w fun e w' => SomeAc w.heap.size w' e ∧ OnlyB b w w' := by
  have NX : Hid (∀ (n A : Nat) (w : World), 2 ≤ n → n ≤ 256 → A ≤ 100000 → SrcA w b a len cap A → Code8 w a len z → Calls Tryd.prog 86 #[.pointer (some ⟨b, 0, none⟩), .int .i64 (n : Int)] w fun e w' => (∃ r : Nat, r < n ∧ e = .returned (.int .i64 (r : Int))) ∧ SrcA w' b a len cap (A + 1) ∧ OnlyB b w w') := fun n A w h1 h2 h3 h4 h5 => next_ex n h1 h2 b a len cap A z hz h3 hl hsep w h4 h5
  have DA : Hid (∀ (A : Nat) (w : World), A ≤ 100000 → SrcA w b a len cap A → Code8 w a len z → Calls Tryd.prog 88 #[.pointer (some ⟨b, 0, none⟩)] w fun e w' => (∃ s : ByteArray, s.size ≤ 16 ∧ e = .returned (.string s)) ∧ SrcA w' b a len cap (A + 1) ∧ OnlyB b w w') := fun A w h1 h2 h3 => datum_ex b a len cap A z hz h1 hl hsep w h2 h3
  have FL : Hid (∀ (A : Nat) (w : World), A ≤ 90000 → SrcA w b a len cap A → Code8 w a len z → Calls Tryd.prog 53 #[.pointer (some ⟨b, 0, none⟩), .int .i64 6] w fun e w' => SomeFl w.heap.size w' e 6 ∧ SrcA w' b a len cap (A + 7) ∧ OnlyB b w w') := fun A w h1 h2 h3 => flags_ex b a len cap A z hz h1 hl hsep w h2 h3
  have SZ : Hid (∀ w : World, SrcA w b a len cap 0 → Calls Tryd.prog 87 #[.pointer (some ⟨b, 0, none⟩), .int .i64 24] w fun e w' => (∃ r : Nat, 1 ≤ r ∧ r ≤ 24 ∧ e = .returned (.int .i64 (r : Int))) ∧ w' = w) := fun w h => size_ex b a len cap 0 hl w h
  have HC : Hid (Code8 w a len z) := hc
  have HSEP : Hid (∀ x, 0 < len → a = some x → x.block ≠ b) := hsep
  have hbl : b < w.heap.size := h.lt
  have H0 : Hid (SrcA (w.alloc (.cells #[] 38)) b a len cap 0) := h.below ((Below.refl _ _).alloc (Nat.le_refl _) _)
  have HC0 : Hid (Code8 (w.alloc (.cells #[] 38)) a len z) := hc.below ((Below.refl _ _).alloc (Nat.le_refl _) _)
  have HO0 : Hid (AcR (w.alloc (.cells #[] 38)) w.heap.size (.slice (some ⟨w.heap.size, 0, none⟩) 0 0) 0 (fun _ => ⟨0, 0, ⟨#[]⟩, 0, fun _ => false, 0⟩) (fun _ => none) (fun _ => 0)) := AcR.lit w w.heap.size (Nat.le_refl _) _ _ _
  have HB0 : Hid (OnlyB b w (w.alloc (.cells #[] 38))) := (OnlyB.refl b w).below ((Below.refl _ _).alloc (Nat.le_refl _) _)
  clear h hc hsep hz
  go_enter Tryd.func42, Tryd.ntmps42
  go_wp2_with fail
  refine (SZ.out _ H0.out).mono ?_
  rintro e w1 ⟨⟨m0, hm1, hm2, rfl⟩, rfl⟩
  have y1 : (m0 : Int) ≤ 24 := by omega
  have y0 : 0 ≤ (m0 : Int) := by omega
  go_wp2_with fail
  have e3 : (m0 : Int) + 3 = ((m0 + 3 : Nat) : Int) := by omega
  rw [e3]
  refine (NX.out (m0 + 3) 0 _ (by omega) (by omega) (by omega) H0.out HC0.out).mono ?_
  rintro e w1 ⟨⟨m, hm, rfl⟩, hs1, ho1⟩
  have hm27 : m < 27 := by omega
  have HO1 : Hid (AcR w1 w.heap.size (.slice (some ⟨w.heap.size, 0, none⟩) 0 0) 0 (fun _ => ⟨0, 0, ⟨#[]⟩, 0, fun _ => false, 0⟩) (fun _ => none) (fun _ => 0)) := acR_onlyB HO0.out ho1 hbl
  have HS1 : Hid (SrcA w1 b a len cap 1) := hs1
  have HB1 : Hid (OnlyB b w w1) := HB0.out.trans ho1
  clear hs1 ho1 HO0 HB0 H0 HC0 SZ e3 hm hm1 hm2 y0 y1
  go_wp2_with fail
  go_loopw [5, 6] (fun v i wr => ∃ (k g c : Nat) (A : Nat → Ac) (AK : Nat → Option Addr) (CK : Nat → Nat), k ≤ m ∧ i = .int .i64 ((m : Int) - (k : Int)) ∧ v = .slice (some ⟨g, 0, none⟩) k c ∧ AcR wr w.heap.size (.slice (some ⟨g, 0, none⟩) k c) k A AK CK ∧ FlR wr w.heap.size g k A AK ∧ SrcA wr b a len cap (1 + 20 * k) ∧ OnlyB b w wr) (fun _ i _ => (intOf i).toNat)
  case atStart => exact ⟨0, w.heap.size, 0, _, _, _, by omega, numEqK (by omega), rfl, HO1.out, fun i hi => absurd hi (Nat.not_lt_zero i), HS1.out, HB1.out⟩
  case round =>
    clear HO1 HS1 HB1
    obtain ⟨k, g, c, A, AK, CK, hk, rfl, rfl, hown, hfl, hsr, ho⟩ := hrel
    have HO : Hid (AcR wr w.heap.size (.slice (some ⟨g, 0, none⟩) k c) k A AK CK) := hown
    have HF : Hid (FlR wr w.heap.size g k A AK) := hfl
    have HS : Hid (SrcA wr b a len cap (1 + 20 * k)) := hsr
    have HW : Hid (OnlyB b w wr) := ho
    have HCr : Hid (Code8 wr a len z) := HC.out.onlyB ho HSEP.out
    clear hown hsr ho hfl
    have x2 : (k : Int) < 120 := by omega
    by_cases hlt : k < m
    · have x1 : (0 : Int) < (m : Int) - (k : Int) := by omega
      go_wp2_with fail
      refine (NX.out 4 (1 + 20 * k) _ (by omega) (by omega) (by omega) HS.out HCr.out).mono ?_
      rintro e w1 ⟨⟨xx, hxx, rfl⟩, hs1, ho1⟩
      have HO1 : Hid (AcR w1 w.heap.size (.slice (some ⟨g, 0, none⟩) k c) k A AK CK) := acR_onlyB HO.out ho1 hbl
      have HF1 : Hid (FlR w1 w.heap.size g k A AK) := HF.out.onlyB ho1 hbl
      have HS1 : Hid (SrcA w1 b a len cap (1 + 20 * k + 1)) := hs1
      have HW1 : Hid (OnlyB b w w1) := HW.out.trans ho1
      have HC1 : Hid (Code8 w1 a len z) := HC.out.onlyB HW1.out HSEP.out
      clear hs1 ho1 HO HS HW HCr HF
      go_wp2_with fail
      refine (DA.out (1 + 20 * k + 1) _ (by omega) HS1.out HC1.out).mono ?_
      rintro e w2 ⟨⟨s, hs16, rfl⟩, hs1, ho1⟩
      have HO2 : Hid (AcR w2 w.heap.size (.slice (some ⟨g, 0, none⟩) k c) k A AK CK) := acR_onlyB HO1.out ho1 hbl
      have HF2 : Hid (FlR w2 w.heap.size g k A AK) := HF1.out.onlyB ho1 hbl
      have HS2 : Hid (SrcA w2 b a len cap (1 + 20 * k + 1 + 1)) := hs1
      have HW2 : Hid (OnlyB b w w2) := HW1.out.trans ho1
      clear hs1 ho1 HO1 HS1 HW1 HC1 HF1
      go_wp2_with fail
      have HC2 : Hid (Code8 w2 a len z) := HC.out.onlyB HW2.out HSEP.out
      have L : Hid (Below w2.heap.size w2 (w2.alloc (.cells #[.int .i64 1, .int .i64 (xx : Int), .string s, .slice none 0 0, .int .i64 0] 38))) := (Below.refl _ _).alloc (Nat.le_refl _) _
      have X2 : Hid (Box5 (w2.alloc (.cells #[.int .i64 1, .int .i64 (xx : Int), .string s, .slice none 0 0, .int .i64 0] 38)) w2.heap.size 38 (.int .i64 1) (.int .i64 (xx : Int)) (.string s) (.slice none 0 0) (.int .i64 0)) := Box5.made _ _ _ _ _ _ _
      refine (NX.out 10 (1 + 20 * k + 1 + 1) _ (by omega) (by omega) (by omega) (HS2.out.below L.out) (HC2.out.below L.out)).mono ?_
      rintro e w3 ⟨⟨r, hr, rfl⟩, hs1, ho1⟩
      have hg2 : g < w2.heap.size := (World.ownsRow.lt HO2.out g rfl).2
      have hb2 : b < w2.heap.size := HS2.out.lt
      have hgB : w.heap.size ≤ g := (World.ownsRow.lt HO2.out g rfl).1
      have h23 : w2.heap.size < w3.heap.size := Nat.lt_of_lt_of_le X2.out.lt ho1.size
      have hw2 : w.heap.size ≤ w2.heap.size := HW2.out.size
      have X3 : Hid (Box5 w3 w2.heap.size 38 (.int .i64 1) (.int .i64 (xx : Int)) (.string s) (.slice none 0 0) (.int .i64 0)) := X2.out.ofBlock (ho1.block _ X2.out.lt (by omega))
      have HO3 : Hid (AcR w3 w.heap.size (.slice (some ⟨g, 0, none⟩) k c) k A AK CK) := acR_onlyB (acR_below HO2.out L.out) ho1 hbl
      have HF3 : Hid (FlR w3 w.heap.size g k A AK) := (HF2.out.below L.out).onlyB ho1 hbl
      have HS3 : Hid (SrcA w3 b a len cap (1 + 20 * k + 1 + 1 + 1)) := hs1
      have HW3 : Hid (OnlyB b w w3) := (HW2.out.below L.out).trans ho1
      have HFQ : Hid (∀ i, i < k → ∀ b o s, AK i = some ⟨b, o, s⟩ → b < w2.heap.size) := fun i hi b o s e => ((HF2.out i hi).2.1 b o s e).2.1
      clear hs1 ho1 HO2 HS2 HW2 HC2 HF2 X2 L
      generalize w2.heap.size = q at *
      have hq : w.heap.size ≤ q := hw2
      have hgq : g ≠ q := by omega
      have c0 := X3.out.c0
      have c1 := X3.out.c1
      have c2 := X3.out.c2
      have c3 := X3.out.c3
      have c4 := X3.out.c4
      have f0 := X3.out.fr 0
      have f1 := X3.out.fr 1
      have f2 := X3.out.fr 2
      have f3 := X3.out.fr 3
      have f4 := X3.out.fr 4
      match r, hr with
      | 0, _ =>
        obtain ⟨g', c', w', hr1, hr2, hr3, hr4, hr5⟩ := tail_ac (w := w) (wX := w3) (W := (((((w3.setCell ⟨q, 0, none⟩ (.int .i64 2)).setCell ⟨q, 1, none⟩ (.int .i64 0)).setCell ⟨q, 2, none⟩ (.string ⟨#[]⟩)).setCell ⟨q, 3, none⟩ (.slice none 0 0)).setCell ⟨q, 4, none⟩ (.int .i64 0))) (q := q) (N := _) 2 0 ⟨#[]⟩ none 0 0 (fun _ => false) 0 HO3.out HF3.out HS3.out HW3.out hbl hq hgq HFQ.out ((((((OnlyB.refl q _).setCell 0 _).setCell 1 _).setCell 2 _).setCell 3 _).setCell 4 _) (fun i hi => absurd hi (Nat.not_lt_zero i)) (fun _ _ _ e => by cases e) (by decide) (by omega) (by omega) (by simp)
        have HR : Hid _ := hr1
        have T1 : Hid _ := hr2
        have T2 : Hid _ := hr3
        have T3 : Hid (SrcA w' b a len cap (1 + 20 * (k + 1))) := hr4.mono (by omega)
        have T4 : Hid (OnlyB b w w') := hr5
        have HK : Hid ((m : Int) - (k : Int) - 1 = (m : Int) - ((k + 1 : Nat) : Int)) := by show (m : Int) - (k : Int) - 1 = _; omega
        clear hr1 hr2 hr3 hr4 hr5
        go_wp2_with (at_builtin; refine Lib.wpList_append_run _ rfl (.tmp 52) (.tmp 54) _ _ rfl _ _ rfl rfl _ _ HR.out ?_)
        go_roundw
        case rel => exact ⟨k + 1, g', c', _, _, _, by omega, numEqK HK.out, rfl, T1.out, T2.out, T3.out, T4.out⟩
        case measure => simp [intOf]; omega
      | 1, _ =>
        obtain ⟨g', c', w', hr1, hr2, hr3, hr4, hr5⟩ := tail_ac (w := w) (wX := w3) (W := (((((w3.setCell ⟨q, 0, none⟩ (.int .i64 2)).setCell ⟨q, 1, none⟩ (.int .i64 0)).setCell ⟨q, 2, none⟩ (.string ⟨#[]⟩)).setCell ⟨q, 3, none⟩ (.slice none 0 0)).setCell ⟨q, 4, none⟩ (.int .i64 0))) (q := q) (N := _) 2 0 ⟨#[]⟩ none 0 0 (fun _ => false) 0 HO3.out HF3.out HS3.out HW3.out hbl hq hgq HFQ.out ((((((OnlyB.refl q _).setCell 0 _).setCell 1 _).setCell 2 _).setCell 3 _).setCell 4 _) (fun i hi => absurd hi (Nat.not_lt_zero i)) (fun _ _ _ e => by cases e) (by decide) (by omega) (by omega) (by simp)
        have HR : Hid _ := hr1
        have T1 : Hid _ := hr2
        have T2 : Hid _ := hr3
        have T3 : Hid (SrcA w' b a len cap (1 + 20 * (k + 1))) := hr4.mono (by omega)
        have T4 : Hid (OnlyB b w w') := hr5
        have HK : Hid ((m : Int) - (k : Int) - 1 = (m : Int) - ((k + 1 : Nat) : Int)) := by show (m : Int) - (k : Int) - 1 = _; omega
        clear hr1 hr2 hr3 hr4 hr5
        go_wp2_with (at_builtin; refine Lib.wpList_append_run _ rfl (.tmp 52) (.tmp 54) _ _ rfl _ _ rfl rfl _ _ HR.out ?_)
        go_roundw
        case rel => exact ⟨k + 1, g', c', _, _, _, by omega, numEqK HK.out, rfl, T1.out, T2.out, T3.out, T4.out⟩
        case measure => simp [intOf]; omega
      | 2, _ =>
        have HC3 : Hid (Code8 w3 a len z) := HC.out.onlyB HW3.out HSEP.out
        go_wp2_with fail
        refine (FL.out _ _ (by omega) HS3.out HC3.out).mono ?_
        rintro e w4 ⟨⟨nk, K, gk, ck, hnk, rfl, hgk, hgl, hbo⟩, hs1, ho1⟩
        have X4 : Hid (Box5 w4 q 38 (.int .i64 1) (.int .i64 (xx : Int)) (.string s) (.slice none 0 0) (.int .i64 0)) := X3.out.ofBlock (ho1.block _ X3.out.lt (by omega))
        have HO4 : Hid (AcR w4 w.heap.size (.slice (some ⟨g, 0, none⟩) k c) k A AK CK) := acR_onlyB HO3.out ho1 hbl
        have HF4 : Hid (FlR w4 w.heap.size g k A AK) := HF3.out.onlyB ho1 hbl
        have HS4 : Hid (SrcA w4 b a len cap (1 + 20 * k + 1 + 1 + 1 + 7)) := hs1
        have HW4 : Hid (OnlyB b w w4) := HW3.out.trans ho1
        have HC4 : Hid (Code8 w4 a len z) := HC.out.onlyB HW4.out HSEP.out
        have HB4 : Hid (Bools w4 (some ⟨gk, 0, none⟩) nk K) := hbo
        have hgk2 : gk ≠ b := by omega
        clear hs1 ho1 HO3 HS3 HW3 HC3 HF3 hbo
        go_wp2_with fail
        refine (NX.out 9 _ _ (by omega) (by omega) (by omega) HS4.out HC4.out).mono ?_
        rintro e w5 ⟨⟨y, hy, rfl⟩, hs1, ho1⟩
        have X5 : Hid (Box5 w5 q 38 (.int .i64 1) (.int .i64 (xx : Int)) (.string s) (.slice none 0 0) (.int .i64 0)) := X4.out.ofBlock (ho1.block _ X4.out.lt (by omega))
        have HO5 : Hid (AcR w5 w.heap.size (.slice (some ⟨g, 0, none⟩) k c) k A AK CK) := acR_onlyB HO4.out ho1 hbl
        have HF5 : Hid (FlR w5 w.heap.size g k A AK) := HF4.out.onlyB ho1 hbl
        have HS5 : Hid (SrcA w5 b a len cap (1 + 20 * k + 1 + 1 + 1 + 7 + 1)) := hs1
        have HW5 : Hid (OnlyB b w w5) := HW4.out.trans ho1
        have HB5 : Hid (Bools w5 (some ⟨gk, 0, none⟩) nk K) := HB4.out.keepD (fun b' o s' e => by cases e; exact ho1.block gk hgl hgk2)
        have h45 : gk < w5.heap.size := Nat.lt_of_lt_of_le hgl ho1.size
        have HAK : Hid (∀ b' o s', (some ⟨gk, 0, none⟩ : Option Addr) = some ⟨b', o, s'⟩ → w.heap.size ≤ b' ∧ b' < w5.heap.size ∧ b' ≠ g ∧ b' ≠ q) := fun b' o s' e => by cases e; exact ⟨by omega, h45, by omega, by omega⟩
        clear hs1 ho1 HO4 HS4 HW4 HC4 HF4 HB4 c0 c1 c2 c3 c4 f0 f1 f2 f3 f4
        have c0 := X5.out.c0
        have c1 := X5.out.c1
        have c2 := X5.out.c2
        have c3 := X5.out.c3
        have c4 := X5.out.c4
        have f0 := X5.out.fr 0
        have f1 := X5.out.fr 1
        have f2 := X5.out.fr 2
        have f3 := X5.out.fr 3
        have f4 := X5.out.fr 4
        have z1 : (y : Int) < 9 := by omega
        obtain ⟨g', c', w', hr1, hr2, hr3, hr4, hr5⟩ := tail_ac (w := w) (wX := w5) (W := (((((w5.setCell ⟨q, 0, none⟩ (.int .i64 3)).setCell ⟨q, 1, none⟩ (.int .i64 0)).setCell ⟨q, 2, none⟩ (.string ⟨#[]⟩)).setCell ⟨q, 3, none⟩ (.slice (some ⟨gk, 0, none⟩) nk ck)).setCell ⟨q, 4, none⟩ (.int .i64 ((y : Int) - 1)))) (q := q) (N := _) 3 0 ⟨#[]⟩ (some ⟨gk, 0, none⟩) nk ck K ((y : Int) - 1) HO5.out HF5.out HS5.out HW5.out hbl hq hgq HFQ.out ((((((OnlyB.refl q _).setCell 0 _).setCell 1 _).setCell 2 _).setCell 3 _).setCell 4 _) HB5.out HAK.out (by decide) (by omega) (by omega) (by simp)
        have HR : Hid _ := hr1
        have T1 : Hid _ := hr2
        have T2 : Hid _ := hr3
        have T3 : Hid (SrcA w' b a len cap (1 + 20 * (k + 1))) := hr4.mono (by omega)
        have T4 : Hid (OnlyB b w w') := hr5
        have HK : Hid ((m : Int) - (k : Int) - 1 = (m : Int) - ((k + 1 : Nat) : Int)) := by show (m : Int) - (k : Int) - 1 = _; omega
        clear hr1 hr2 hr3 hr4 hr5
        go_wp2_with (at_builtin; refine Lib.wpList_append_run _ rfl (.tmp 52) (.tmp 54) _ _ rfl _ _ rfl rfl _ _ HR.out ?_)
        go_roundw
        case rel => exact ⟨k + 1, g', c', _, _, _, by omega, numEqK HK.out, rfl, T1.out, T2.out, T3.out, T4.out⟩
        case measure => simp [intOf]; omega
      | 3, _ =>
        have HC3 : Hid (Code8 w3 a len z) := HC.out.onlyB HW3.out HSEP.out
        go_wp2_with fail
        refine (NX.out 2 _ _ (by omega) (by omega) (by omega) HS3.out HC3.out).mono ?_
        rintro e w4 ⟨⟨y, hy, rfl⟩, hs1, ho1⟩
        have X4 : Hid (Box5 w4 q 38 (.int .i64 1) (.int .i64 (xx : Int)) (.string s) (.slice none 0 0) (.int .i64 0)) := X3.out.ofBlock (ho1.block _ X3.out.lt (by omega))
        have HO4 : Hid (AcR w4 w.heap.size (.slice (some ⟨g, 0, none⟩) k c) k A AK CK) := acR_onlyB HO3.out ho1 hbl
        have HF4 : Hid (FlR w4 w.heap.size g k A AK) := HF3.out.onlyB ho1 hbl
        have HS4 : Hid (SrcA w4 b a len cap (1 + 20 * k + 1 + 1 + 1 + 1)) := hs1
        have HW4 : Hid (OnlyB b w w4) := HW3.out.trans ho1
        clear hs1 ho1 HO3 HS3 HW3 HC3 HF3 c0 c1 c2 c3 c4 f0 f1 f2 f3 f4
        have c0 := X4.out.c0
        have c1 := X4.out.c1
        have c2 := X4.out.c2
        have c3 := X4.out.c3
        have c4 := X4.out.c4
        have f0 := X4.out.fr 0
        have f1 := X4.out.fr 1
        have f2 := X4.out.fr 2
        have f3 := X4.out.fr 3
        have f4 := X4.out.fr 4
        have z1 : (y : Int) < 2 := by omega
        obtain ⟨g', c', w', hr1, hr2, hr3, hr4, hr5⟩ := tail_ac (w := w) (wX := w4) (W := (((((w4.setCell ⟨q, 0, none⟩ (.int .i64 (4 + (y : Int)))).setCell ⟨q, 1, none⟩ (.int .i64 0)).setCell ⟨q, 2, none⟩ (.string ⟨#[]⟩)).setCell ⟨q, 3, none⟩ (.slice none 0 0)).setCell ⟨q, 4, none⟩ (.int .i64 0))) (q := q) (N := _) (4 + (y : Int)) 0 ⟨#[]⟩ none 0 0 (fun _ => false) 0 HO4.out HF4.out HS4.out HW4.out hbl hq hgq HFQ.out ((((((OnlyB.refl q _).setCell 0 _).setCell 1 _).setCell 2 _).setCell 3 _).setCell 4 _) (fun i hi => absurd hi (Nat.not_lt_zero i)) (fun _ _ _ e => by cases e) (by decide) (by omega) (by omega) (by simp)
        have HR : Hid _ := hr1
        have T1 : Hid _ := hr2
        have T2 : Hid _ := hr3
        have T3 : Hid (SrcA w' b a len cap (1 + 20 * (k + 1))) := hr4.mono (by omega)
        have T4 : Hid (OnlyB b w w') := hr5
        have HK : Hid ((m : Int) - (k : Int) - 1 = (m : Int) - ((k + 1 : Nat) : Int)) := by show (m : Int) - (k : Int) - 1 = _; omega
        clear hr1 hr2 hr3 hr4 hr5
        go_wp2_with (at_builtin; refine Lib.wpList_append_run _ rfl (.tmp 52) (.tmp 54) _ _ rfl _ _ rfl rfl _ _ HR.out ?_)
        go_roundw
        case rel => exact ⟨k + 1, g', c', _, _, _, by omega, numEqK HK.out, rfl, T1.out, T2.out, T3.out, T4.out⟩
        case measure => simp [intOf]; omega
      | 4, _ =>
        obtain ⟨g', c', w', hr1, hr2, hr3, hr4, hr5⟩ := tail_ac (w := w) (wX := w3) (W := (w3.setCell ⟨q, 0, none⟩ (.int .i64 6))) (q := q) (N := _) 6 (xx : Int) s none 0 0 (fun _ => false) 0 HO3.out HF3.out HS3.out HW3.out hbl hq hgq HFQ.out ((OnlyB.refl q _).setCell 0 _) (fun i hi => absurd hi (Nat.not_lt_zero i)) (fun _ _ _ e => by cases e) (by omega) (by omega) (by omega) (by simp)
        have HR : Hid _ := hr1
        have T1 : Hid _ := hr2
        have T2 : Hid _ := hr3
        have T3 : Hid (SrcA w' b a len cap (1 + 20 * (k + 1))) := hr4.mono (by omega)
        have T4 : Hid (OnlyB b w w') := hr5
        have HK : Hid ((m : Int) - (k : Int) - 1 = (m : Int) - ((k + 1 : Nat) : Int)) := by show (m : Int) - (k : Int) - 1 = _; omega
        clear hr1 hr2 hr3 hr4 hr5
        go_wp2_with (at_builtin; refine Lib.wpList_append_run _ rfl (.tmp 52) (.tmp 54) _ _ rfl _ _ rfl rfl _ _ HR.out ?_)
        go_roundw
        case rel => exact ⟨k + 1, g', c', _, _, _, by omega, numEqK HK.out, rfl, T1.out, T2.out, T3.out, T4.out⟩
        case measure => simp [intOf]; omega
      | r + 5, hr =>
        have z1 : ¬ ((r + 5 : Nat) : Int) = 0 := by omega
        have z2 : ¬ ((r + 5 : Nat) : Int) = 1 := by omega
        have z3 : ¬ ((r + 5 : Nat) : Int) = 2 := by omega
        have z4 : ¬ ((r + 5 : Nat) : Int) = 3 := by omega
        have z5 : ¬ ((r + 5 : Nat) : Int) = 4 := by omega
        obtain ⟨g', c', w', hr1, hr2, hr3, hr4, hr5⟩ := tail_ac (w := w) (wX := w3) (W := w3) (q := q) (N := _) 1 (xx : Int) s none 0 0 (fun _ => false) 0 HO3.out HF3.out HS3.out HW3.out hbl hq hgq HFQ.out (OnlyB.refl q _) (fun i hi => absurd hi (Nat.not_lt_zero i)) (fun _ _ _ e => by cases e) (by omega) (by omega) (by omega) (by simp)
        have HR : Hid _ := hr1
        have T1 : Hid _ := hr2
        have T2 : Hid _ := hr3
        have T3 : Hid (SrcA w' b a len cap (1 + 20 * (k + 1))) := hr4.mono (by omega)
        have T4 : Hid (OnlyB b w w') := hr5
        have HK : Hid ((m : Int) - (k : Int) - 1 = (m : Int) - ((k + 1 : Nat) : Int)) := by show (m : Int) - (k : Int) - 1 = _; omega
        clear hr1 hr2 hr3 hr4 hr5
        go_wp2_with (at_builtin; refine Lib.wpList_append_run _ rfl (.tmp 52) (.tmp 54) _ _ rfl _ _ rfl rfl _ _ HR.out ?_)
        go_roundw
        case rel => exact ⟨k + 1, g', c', _, _, _, by omega, numEqK HK.out, rfl, T1.out, T2.out, T3.out, T4.out⟩
        case measure => simp [intOf]; omega
    · have x1 : ¬ (0 : Int) < (m : Int) - (k : Int) := by omega
      go_wp2
      go_ret
      exact ⟨⟨k, A, g, c, by omega, rfl, (World.ownsRow.lt HO.out g rfl).1, fun i hi => ⟨g, 0, AK i, CK i, rfl, HO.out.cells i hi, (HF.out i hi).1⟩, fun i hi => (HF.out i hi).2.2⟩, HW.out⟩
end Go.Proofs.YtkhglllicblbbaaDoor

/-
  The model's draws of acts and of flags from a code.
-/
namespace Go.Proofs.YtkhglllicblbbaaDoor
open Go.ChangeShapes Go.WideShapes Go.ChangeAt Go.RowKit
set_option linter.unusedVariables false
set_option maxRecDepth 100000 in
theorem diskActsOf_ex (a : Option Addr) (len cap : Nat) (z : Nat → Nat) (hz : ∀ i, z i < 256) (hl : len ≤ maxLen) (w : World) (hc : Code8 w a len z) :
    Calls Tryd.prog 8 #[.slice a len cap, .int .i64 4] w fun e w' => SomeAc w.heap.size w' e ∧ Below w.heap.size w w' := by
  have SO : Hid (∀ w : World, Calls Tryd.prog 41 #[.slice a len cap] w fun e w' => e = .returned (.pointer (some ⟨w.heap.size, 0, none⟩)) ∧ Src w' w.heap.size a len cap 0 (len % 1000) ∧ Below w.heap.size w w') := fun w => source_any a len cap hl w
  have PL : Hid (∀ (b : Nat) (w : World), (∀ x, 0 < len → a = some x → x.block ≠ b) → SrcA w b a len cap 0 → Code8 w a len z → Calls Tryd.prog 42 #[.pointer (some ⟨b, 0, none⟩), .int .i64 4] w fun e w' => SomeAc w.heap.size w' e ∧ OnlyB b w w') := fun b w h1 h2 h3 => diskActs_ex b a len cap z hz hl h1 w h2 h3
  have HC : Hid (Code8 w a len z) := hc
  have HSEP : Hid (∀ x, 0 < len → a = some x → x.block < w.heap.size) := hc.lt
  clear hc hz
  go_enter Tryd.func8, Tryd.ntmps8
  go_wp2_with fail
  refine (SO.out _).mono ?_
  rintro e w1 ⟨rfl, hs1, hb1⟩
  have HS1 : Hid (SrcA w1 w.heap.size a len cap 0) := ⟨0, _, Nat.le_refl _, by have := Nat.mod_lt len (show 0 < 1000 by omega); omega, hs1⟩
  have HB1 : Hid (Below w.heap.size w w1) := hb1
  have HC1 : Hid (Code8 w1 a len z) := HC.out.below hb1
  clear hs1 hb1
  go_wp2_with fail
  refine (PL.out _ _ (fun x h0 hx => by have := HSEP.out x h0 hx; omega) HS1.out HC1.out).mono ?_
  rintro e w2 ⟨⟨n, A, g, c, hn, rfl, hg, hA, hs⟩, ho2⟩
  have HB2 : Hid (Below w.heap.size w w2) := HB1.out.trans (ho2.toBelow (Nat.le_refl _) HB1.out.size)
  have R : Hid (SomeAc w.heap.size w2 (.returned (.slice (some ⟨g, 0, none⟩) n c))) := ⟨n, A, g, c, hn, rfl, Nat.le_trans HB1.out.size hg, hA, hs⟩
  clear ho2 hA hs hn hg
  go_wp2
  go_ret
  exact ⟨R.out, HB2.out⟩
set_option maxRecDepth 100000 in
theorem flagsOf_ex (a : Option Addr) (len cap : Nat) (z : Nat → Nat) (hz : ∀ i, z i < 256) (hl : len ≤ maxLen) (w : World) (hc : Code8 w a len z) :
    Calls Tryd.prog 14 #[.slice a len cap, .int .i64 6] w fun e w' => SomeFl w.heap.size w' e 6 ∧ Below w.heap.size w w' := by
  have SO : Hid (∀ w : World, Calls Tryd.prog 41 #[.slice a len cap] w fun e w' => e = .returned (.pointer (some ⟨w.heap.size, 0, none⟩)) ∧ Src w' w.heap.size a len cap 0 (len % 1000) ∧ Below w.heap.size w w') := fun w => source_any a len cap hl w
  have PL : Hid (∀ (b : Nat) (w : World), (∀ x, 0 < len → a = some x → x.block ≠ b) → SrcA w b a len cap 0 → Code8 w a len z → Calls Tryd.prog 53 #[.pointer (some ⟨b, 0, none⟩), .int .i64 6] w fun e w' => SomeFl w.heap.size w' e 6 ∧ SrcA w' b a len cap (0 + 7) ∧ OnlyB b w w') := fun b w h1 h2 h3 => flags_ex b a len cap 0 z hz (by omega) hl h1 w h2 h3
  have HC : Hid (Code8 w a len z) := hc
  have HSEP : Hid (∀ x, 0 < len → a = some x → x.block < w.heap.size) := hc.lt
  clear hc hz
  go_enter Tryd.func14, Tryd.ntmps14
  go_wp2_with fail
  refine (SO.out _).mono ?_
  rintro e w1 ⟨rfl, hs1, hb1⟩
  have HS1 : Hid (SrcA w1 w.heap.size a len cap 0) := ⟨0, _, Nat.le_refl _, by have := Nat.mod_lt len (show 0 < 1000 by omega); omega, hs1⟩
  have HB1 : Hid (Below w.heap.size w w1) := hb1
  have HC1 : Hid (Code8 w1 a len z) := HC.out.below hb1
  clear hs1 hb1
  go_wp2_with fail
  refine (PL.out _ _ (fun x h0 hx => by have := HSEP.out x h0 hx; omega) HS1.out HC1.out).mono ?_
  rintro e w2 ⟨⟨n, A, g, c, hn, rfl, hg, hA, hs⟩, _, ho2⟩
  have HB2 : Hid (Below w.heap.size w w2) := HB1.out.trans (ho2.toBelow (Nat.le_refl _) HB1.out.size)
  have R : Hid (SomeFl w.heap.size w2 (.returned (.slice (some ⟨g, 0, none⟩) n c)) 6) := ⟨n, A, g, c, hn, rfl, Nat.le_trans HB1.out.size hg, hA, hs⟩
  clear ho2 hA hs hn hg
  go_wp2
  go_ret
  exact ⟨R.out, HB2.out⟩
end Go.Proofs.YtkhglllicblbbaaDoor
