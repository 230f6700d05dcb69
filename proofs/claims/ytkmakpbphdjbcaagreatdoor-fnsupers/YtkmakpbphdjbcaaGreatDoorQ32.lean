/-
  Texts of the proof, joined: RdSup.
-/
import Derived.Test.YtkmakpbphdjbcaaGreatDoorQ13
import Derived.Test.YtkmakpbphdjbcaaGreatDoorQ31
import Derived.Deep.Cut
namespace Go.Proofs.YtkmakpbphdjbcaaGreatDoor
open Go.ChangeShapes Go.WideShapes Go.ChangeAt Go.RowKit
set_option linter.unusedVariables false
def sZ (f : Nat → Nat) : Nat := valN (fun j => f (0 + j)) 2
def sP (f : Nat → Nat) (i : Nat) : Plc := ⟨((valN (fun j => f (2 + 3 * i + j)) 1 : Nat) : Int), ((valN (fun j => f (2 + 3 * i + 1 + j)) 2 : Nat) : Int)⟩
def sR (f : Nat → Nat) : ByteArray := kstr (fun j => f (2 + 3 * pcsN (sZ f) + j)) 0 32
def RdS (N : Nat) (f : Nat → Nat) : Prop := N = 34 + 3 * pcsN (sZ f) ∧ SupOk (sZ f : Nat) (pcsN (sZ f)) (sP f) (sR f)
theorem supOk_congr {z : Int} {n : Nat} {P Q : Nat → Plc} {r : ByteArray} (h : ∀ i, i < n → P i = Q i) : SupOk z n P r ↔ SupOk z n Q r := by
  have one : ∀ {P Q : Nat → Plc}, (∀ i, i < n → P i = Q i) → SupOk z n P r → SupOk z n Q r := fun h q => ⟨q.1, fun i hi => by
    have := q.2 i hi
    unfold PlOne at this ⊢
    rw [h i hi] at this
    exact ⟨this.1, fun j hj => by rw [← h j (by omega)]; exact this.2 j hj⟩⟩
  exact ⟨one h, one (fun i hi => (h i hi).symm)⟩
def RetSu (w w' : World) (e : Ending) (f : Nat → Nat) : Prop := ∃ a c, e = .returned (.tuple #[.agg #[.int .i64 (sZ f : Nat), .slice a (pcsN (sZ f)) c, .string (sR f)], .int .i64 0]) ∧ EO w' w.heap.size 36 2 (.slice a (pcsN (sZ f)) c) (pcsN (sZ f)) (pcF (sP f))
def RetS0 (e : Ending) (cd : Int) : Prop := e = .returned (.tuple #[.agg #[.int .i64 0, .slice none 0 0, .string ⟨#[]⟩], .int .i64 cd])
theorem heap_setOtherS {w : World} {b : Nat} (p : Addr) (v : Value) (h : b ≠ p.block) : (w.setCell p v).heap[b]? = w.heap[b]? := by
  simp [World.setCell, Array.getElem?_modify]
  intro e
  exact absurd e.symm h
theorem ended_otherS (q D N : Nat) (f : Nat → Nat) (p : Option Nat) (hp : p ≠ some N) (w : World) (h : Rdr w q D N f p) :
    Calls Tryz.prog 27 #[.pointer (some ⟨q, 0, none⟩)] w fun e w' => e = .returned (.bool false) ∧ w = w' := by
  cases p with
  | none => exact ended_short q D N f w h
  | some P =>
    have h1 := h.1
    have h2 : P ≠ N := fun e => hp (by rw [e])
    exact ended_no q D N P f (by omega) w h
set_option maxRecDepth 100000 in
theorem implPc_cnt (x : Nat) : ∃ (cnt : Nat) (cd : Int), cnt ≤ 16 ∧ ((x ≤ 1024 ∧ cnt = pcsN x) ∨ (1024 < x ∧ cnt = 0)) ∧ ∀ w : World, Calls Tryz.prog 25 #[.int .i64 (x : Int)] w fun e w' => e = .returned (.tuple #[.int .i64 (cnt : Int), .int .i64 cd]) ∧ w = w' := by
  by_cases h : x ≤ 1024
  · exact ⟨pcsN x, 0, pcsN_le h, .inl ⟨h, rfl⟩, implPc_ok x h⟩
  · exact ⟨0, 4, by omega, .inr ⟨by omega, rfl⟩, implPc_no x (by omega)⟩
set_option maxRecDepth 100000 in
set_option maxHeartbeats 8000000 in
theorem implReadSuper_is (a : Option Addr) (N c : Nat) (f : Nat → Nat) (hf : ∀ i, f i < 256) (hN : N ≤ 65536) (hc : N ≤ c) (w : World) (h : Code8 w a N f) :
    Calls Tryz.prog 7 #[.slice a N c] w fun e w' => ((RdS N f ∧ RetSu w w' e f) ∨ (¬ RdS N f ∧ RetS0 e 3)) ∧ Below w.heap.size w w' := by
  have NU1 : Hid (∀ (u : World) (p : Option Nat), Rdr u (w.heap.size + 1) w.heap.size N f p → Calls Tryz.prog 24 #[.pointer (some ⟨w.heap.size + 1, 0, none⟩), .int .i64 1] u fun e w' => GotN w' e (w.heap.size + 1) w.heap.size N 1 f p ∧ OnlyB (w.heap.size + 1) u w') := fun u p h => number_any (w.heap.size + 1) w.heap.size N 1 (by omega) f hf (by omega) (by omega) (by omega) p u h
  have NU2 : Hid (∀ (u : World) (p : Option Nat), Rdr u (w.heap.size + 1) w.heap.size N f p → Calls Tryz.prog 24 #[.pointer (some ⟨w.heap.size + 1, 0, none⟩), .int .i64 2] u fun e w' => GotN w' e (w.heap.size + 1) w.heap.size N 2 f p ∧ OnlyB (w.heap.size + 1) u w') := fun u p h => number_any (w.heap.size + 1) w.heap.size N 2 (by omega) f hf (by omega) (by omega) (by omega) p u h
  have TX : Hid (∀ (u : World) (p : Option Nat), Rdr u (w.heap.size + 1) w.heap.size N f p → Calls Tryz.prog 26 #[.pointer (some ⟨w.heap.size + 1, 0, none⟩), .int .i64 32] u fun e w' => GotT w' e (w.heap.size + 1) w.heap.size N 32 f p ∧ OnlyB (w.heap.size + 1) u w') := fun u p h => rdText_any (w.heap.size + 1) w.heap.size N 32 (by omega) f (by omega) (by omega) (by omega) p u h
  have n1 : ¬ (65536 : Int) < (N : Int) := by omega
  have AB : Hid (Below w.heap.size w ((w.alloc (.cells #[.int .i64 0, .slice none 0 0, .string ⟨#[]⟩] 25)).alloc (.cells #[.slice a N c, .bool false] 50))) := ((Below.refl w.heap.size w).alloc (Nat.le_refl _) _).alloc (by simp) _
  have X0 : Hid (Box3 ((w.alloc (.cells #[.int .i64 0, .slice none 0 0, .string ⟨#[]⟩] 25)).alloc (.cells #[.slice a N c, .bool false] 50)) w.heap.size 25 (.int .i64 0) (.slice none 0 0) (.string ⟨#[]⟩)) := (Box3.made w _ _ _ _).alloc _
  have XR : Hid (Box2 ((w.alloc (.cells #[.int .i64 0, .slice none 0 0, .string ⟨#[]⟩] 25)).alloc (.cells #[.slice a N c, .bool false] 50)) (w.heap.size + 1) 50 (.slice a N c) (.bool false)) := Box2.madeAt (by simp) _ _ _
  have SZ : Hid (w.heap.size + 1 < ((w.alloc (.cells #[.int .i64 0, .slice none 0 0, .string ⟨#[]⟩] 25)).alloc (.cells #[.slice a N c, .bool false] 50)).heap.size) := by show _ < _; simp
  have HC : Hid (Code8 w a N f) := h
  clear h hf
  go_enter Tryz.func7, Tryz.ntmps7
  go_wp2_with fail
  generalize ((w.alloc (.cells #[.int .i64 0, .slice none 0 0, .string ⟨#[]⟩] 25)).alloc (.cells #[.slice a N c, .bool false] 50)) = v at *
  have RD : Hid (Rdr v (w.heap.size + 1) w.heap.size N f (some 0)) := ⟨by omega, a, c, hc, XR.out, (HC.out.below AB.out).congr (fun i hi => by rw [Nat.zero_add]), fun x h0 hx => HC.out.lt x (by omega) hx⟩
  clear XR HC hc
  refine (NU2.out _ (some 0) RD.out).mono ?_
  rintro e u0 ⟨⟨x0, p0, rfl, hrd, hnx, hlt0⟩, ho⟩
  obtain ⟨cnt, cdc, hc16, hcnt, hPC⟩ := implPc_cnt x0
  have PCC : Hid (∀ w : World, Calls Tryz.prog 25 #[.int .i64 (x0 : Int)] w fun e w' => e = .returned (.tuple #[.int .i64 (cnt : Int), .int .i64 cdc]) ∧ w = w') := hPC
  have HCN : Hid ((x0 ≤ 1024 ∧ cnt = pcsN x0) ∨ (1024 < x0 ∧ cnt = 0)) := hcnt
  have WX0 : Hid (x0 ≠ sZ f → N < 2) := fun q => by
    rcases hnx with ⟨e, e5⟩ | ⟨P, e1, e2, e3, e4⟩
    · rcases e5 with e5 | ⟨P, e5, e6⟩
      · cases e5
      · cases e5
        omega
    · cases e1
      exact absurd e4 q
  have I0 : Hid ((p0 = none ∧ N < 2) ∨ (p0 = some 2 ∧ x0 = sZ f)) := by
    show _ ∨ _
    rcases hnx with ⟨e, e5⟩ | ⟨P, e1, e2, e3, e4⟩
    · refine .inl ⟨e, ?_⟩
      rcases e5 with e5 | ⟨P, e5, e6⟩
      · cases e5
      · cases e5
        omega
    · cases e1
      exact .inr ⟨e3, e4⟩
  replace RD : Hid (Rdr u0 (w.heap.size + 1) w.heap.size N f p0) := hrd
  replace X0 : Hid (Box3 u0 w.heap.size 25 (.int .i64 0) (.slice none 0 0) (.string ⟨#[]⟩)) := X0.out.ofBlock (ho.block _ X0.out.lt (by omega))
  replace AB : Hid (Below w.heap.size w u0) := AB.out.trans (ho.toBelow (by omega) AB.out.size)
  replace SZ : Hid (w.heap.size + 1 < u0.heap.size) := Nat.lt_of_lt_of_le SZ.out ho.size
  clear hrd hnx ho hPC hcnt hlt0
  have hbs : Below u0.heap.size u0 (u0.alloc (.cells #[.int .i64 (x0 : Int), .slice none 0 0, .string ⟨#[]⟩] 25)) := (Below.refl _ _).alloc (Nat.le_refl _) _
  have XS : Hid (Box3 (u0.alloc (.cells #[.int .i64 (x0 : Int), .slice none 0 0, .string ⟨#[]⟩] 25)) u0.heap.size 25 (.int .i64 (x0 : Int)) (.slice none 0 0) (.string ⟨#[]⟩)) := Box3.made _ _ _ _ _
  replace RD : Hid (Rdr (u0.alloc (.cells #[.int .i64 (x0 : Int), .slice none 0 0, .string ⟨#[]⟩] 25)) (w.heap.size + 1) w.heap.size N f p0) := RD.out.below (by omega) hbs
  replace X0 : Hid (Box3 (u0.alloc (.cells #[.int .i64 (x0 : Int), .slice none 0 0, .string ⟨#[]⟩] 25)) w.heap.size 25 (.int .i64 0) (.slice none 0 0) (.string ⟨#[]⟩)) := X0.out.below hbs
  replace AB : Hid (Below w.heap.size w (u0.alloc (.cells #[.int .i64 (x0 : Int), .slice none 0 0, .string ⟨#[]⟩] 25))) := AB.out.trans (hbs.mono AB.out.size)
  clear hbs
  have k0 := XS.out.c0
  go_wp2_with fail
  clear k0
  generalize (u0.alloc (.cells #[.int .i64 (x0 : Int), .slice none 0 0, .string ⟨#[]⟩] 25)) = u1 at *
  generalize u0.heap.size = sb at *
  refine (PCC.out _).mono ?_
  rintro e _ ⟨rfl, rfl⟩
  clear PCC
  have cb : (cnt : Int) ≤ 16 := by omega
  go_wp2
  go_loopw [23] (fun i wr => ∃ (k : Nat) (v0 : Value) (R : Nat → Plc) (p : Option Nat), k ≤ cnt ∧ i = .int .i64 k ∧ Box3 wr w.heap.size 25 (.int .i64 0) (.slice none 0 0) (.string ⟨#[]⟩) ∧ Box3 wr sb 25 (.int .i64 (x0 : Int)) v0 (.string ⟨#[]⟩) ∧ EO wr (sb + 1) 36 2 v0 k (pcF R) ∧ Rdr wr (w.heap.size + 1) w.heap.size N f p ∧ ((p = none ∧ N < 2 + 3 * cnt) ∨ (p = some (2 + 3 * k) ∧ x0 = sZ f ∧ ∀ i, i < k → R i = sP f i)) ∧ Below w.heap.size w wr) (fun i _ => cnt - (intOf i).toNat)
  case atStart =>
    refine ⟨0, _, fun _ => pcZ, p0, by omega, rfl, X0.out, XS.out, EO.nil _ _ _ _ _, RD.out, ?_, AB.out⟩
    rcases I0.out with ⟨e, e2⟩ | ⟨e, e2⟩
    · exact .inl ⟨e, by omega⟩
    · exact .inr ⟨e, e2, fun i hi => absurd hi (by omega)⟩
  case round =>
    clear X0 XS RD I0 AB
    obtain ⟨k, v0, R, p, hk, rfl, X0, XS, RV, RD, IV, AB⟩ := hrel
    replace X0 : Hid (Box3 wr w.heap.size 25 (.int .i64 0) (.slice none 0 0) (.string ⟨#[]⟩)) := X0
    replace XS : Hid (Box3 wr sb 25 (.int .i64 (x0 : Int)) v0 (.string ⟨#[]⟩)) := XS
    replace RV : Hid (EO wr (sb + 1) 36 2 v0 k (pcF R)) := RV
    replace RD : Hid (Rdr wr (w.heap.size + 1) w.heap.size N f p) := RD
    replace IV : Hid ((p = none ∧ N < 2 + 3 * cnt) ∨ (p = some (2 + 3 * k) ∧ x0 = sZ f ∧ ∀ i, i < k → R i = sP f i)) := IV
    replace AB : Hid (Below w.heap.size w wr) := AB
    by_cases hlt : k < cnt
    · have hlt' : (k : Int) < (cnt : Int) := by omega
      have kk0 : (0 : Int) ≤ (k : Int) := by omega
      have HK : Hid (k < cnt) := hlt
      have K16 : Hid (k ≤ 16) := by show k ≤ 16; omega
      clear hlt hk
      have X0d : Hid (Box3 wr.drew w.heap.size 25 (.int .i64 0) (.slice none 0 0) (.string ⟨#[]⟩)) := X0.out.below ((Below.refl _ _).drew)
      have XSd : Hid (Box3 wr.drew sb 25 (.int .i64 (x0 : Int)) v0 (.string ⟨#[]⟩)) := XS.out.below ((Below.refl _ _).drew)
      have RVd : Hid (EO wr.drew (sb + 1) 36 2 v0 k (pcF R)) := RV.out.below ((Below.refl _ _).drew)
      have RDd : Hid (Rdr wr.drew (w.heap.size + 1) w.heap.size N f p) := RD.out.below (by omega) ((Below.refl _ _).drew)
      have ABd : Hid (Below w.heap.size w wr.drew) := AB.out.trans (((Below.refl _ _).drew).mono AB.out.size)
      clear X0 XS RV RD AB
      have X0 : Hid (Box3 wr.drew w.heap.size 25 (.int .i64 0) (.slice none 0 0) (.string ⟨#[]⟩)) := X0d.out
      have XS : Hid (Box3 wr.drew sb 25 (.int .i64 (x0 : Int)) v0 (.string ⟨#[]⟩)) := XSd.out
      have RV : Hid (EO wr.drew (sb + 1) 36 2 v0 k (pcF R)) := RVd.out
      have RD : Hid (Rdr wr.drew (w.heap.size + 1) w.heap.size N f p) := RDd.out
      clear X0d XSd RVd RDd
      go_wp2_with fail
      have H : Below w.heap.size w wr.drew := ABd.out
      refine wp_region_noPanic ?_
      refine wp_region_held_drew (S := fun w' => Below w.heap.size w w') (by kernel_rfl) H (fun _ => ?_)
      generalize wr.drew = y0 at *
      refine wpAnyH_take (i := 0) (v := .pointer (some ⟨sb, 1, none⟩)) rfl (by kernel_rfl) (by kernel_rfl) (by kernel_rfl) (fun _ _ _ h => h) (Or.inl ⟨by rfl, ?_⟩) H ?_
      · intro w' hSw; go_simp
      change wpAnyH _ _ _ _ _ _ _ { tmps := #[_,_,_,_,_,_,_,_,_,_,_,_,_,_,_,_,_,_,_,_,_,_,_,_,_,_,_,_,_,_,_,_,_,_,_,_,_,_,_,_,_,_,_,_,_], defers := _ } _
      refine wpAnyH_ready (rs := [1, 2]) (by kernel_rfl) (by simp) ?_
      refine (AllReadyH.cons rfl (fun KK hK => ?_) (AllReadyH.cons rfl (fun KK hK => ?_) AllReadyH.nil))
      · skip
        have c1 := XS.out.c1
        go_simp
        refine hK.out _ _ H (fun _ => ?_)
        clear hK KK
        change wpAnyH _ _ _ _ _ _ _ { tmps := #[_,_,_,_,_,_,_,_,_,_,_,_,_,_,_,_,_,_,_,_,_,_,_,_,_,_,_,_,_,_,_,_,_,_,_,_,_,_,_,_,_,_,_,_,_], defers := _ } _
        refine wpAnyH_ready (rs := [2]) (by kernel_rfl) (by simp) ?_
        refine (AllReadyH.cons rfl (fun KK hK => ?_) AllReadyH.nil)
        go_simp
        refine (NU1.out _ p RD.out).mono ?_
        rintro e y1 ⟨⟨x1, p1, rfl, hrd, hnx, hlt1⟩, ho⟩
        replace RD : Hid (Rdr y1 (w.heap.size + 1) w.heap.size N f p1) := hrd
        have NX1 : Hid (Nxt N 1 p p1 (fun P => x1 = valN (fun i => f (P + i)) 1)) := hnx
        have SBL : sb < y0.heap.size := XS.out.lt
        replace X0 : Hid (Box3 y1 w.heap.size 25 (.int .i64 0) (.slice none 0 0) (.string ⟨#[]⟩)) := X0.out.ofBlock (ho.block _ X0.out.lt (by omega))
        replace XS : Hid (Box3 y1 sb 25 (.int .i64 (x0 : Int)) v0 (.string ⟨#[]⟩)) := XS.out.ofBlock (ho.block _ XS.out.lt (by have := SZ.out; omega))
        replace RV : Hid (EO y1 (sb + 1) 36 2 v0 k (pcF R)) := RV.out.onlyB ho (by have := SZ.out; omega)
        replace H : Below w.heap.size w y1 := H.trans (ho.toBelow (by omega) H.size)
        clear hrd hnx ho hlt1 SBL
        refine hK.out _ _ H (fun _ => ?_)
        clear hK KK
        change wpAnyH _ _ _ _ _ _ _ { tmps := #[_,_,_,_,_,_,_,_,_,_,_,_,_,_,_,_,_,_,_,_,_,_,_,_,_,_,_,_,_,_,_,_,_,_,_,_,_,_,_,_,_,_,_,_,_], defers := _ } _
        refine wpAnyH_ready (rs := [3]) (by kernel_rfl) (by simp) ?_
        refine (AllReadyH.cons rfl (fun KK hK => ?_) AllReadyH.nil)
        go_simp
        refine (NU2.out _ p1 RD.out).mono ?_
        rintro e y2 ⟨⟨x2, p2, rfl, hrd, hnx, hlt2⟩, ho⟩
        replace RD : Hid (Rdr y2 (w.heap.size + 1) w.heap.size N f p2) := hrd
        have NX2 : Hid (Nxt N 2 p1 p2 (fun P => x2 = valN (fun i => f (P + i)) 2)) := hnx
        have SBL : sb < y1.heap.size := XS.out.lt
        replace X0 : Hid (Box3 y2 w.heap.size 25 (.int .i64 0) (.slice none 0 0) (.string ⟨#[]⟩)) := X0.out.ofBlock (ho.block _ X0.out.lt (by omega))
        replace XS : Hid (Box3 y2 sb 25 (.int .i64 (x0 : Int)) v0 (.string ⟨#[]⟩)) := XS.out.ofBlock (ho.block _ XS.out.lt (by have := SZ.out; omega))
        replace RV : Hid (EO y2 (sb + 1) 36 2 v0 k (pcF R)) := RV.out.onlyB ho (by have := SZ.out; omega)
        replace H : Below w.heap.size w y2 := H.trans (ho.toBelow (by omega) H.size)
        clear hrd hnx ho hlt2 SBL
        refine hK.out _ _ H (fun _ => ?_)
        clear hK KK
        change wpAnyH _ _ _ _ _ _ _ { tmps := #[_,_,_,_,_,_,_,_,_,_,_,_,_,_,_,_,_,_,_,_,_,_,_,_,_,_,_,_,_,_,_,_,_,_,_,_,_,_,_,_,_,_,_,_,_], defers := _ } _
        refine wpAnyH_take (i := 4) (v := .agg #[.int .i64 (x1 : Int), .int .i64 (x2 : Int)]) rfl (by kernel_rfl) (by kernel_rfl) (by kernel_rfl) (fun _ _ _ h => h) (Or.inl ⟨by rfl, ?_⟩) H ?_
        · intro w' hSw; go_simp
        change wpAnyH _ _ _ _ _ _ _ { tmps := #[_,_,_,_,_,_,_,_,_,_,_,_,_,_,_,_,_,_,_,_,_,_,_,_,_,_,_,_,_,_,_,_,_,_,_,_,_,_,_,_,_,_,_,_,_], defers := _ } _
        refine wpAnyH_ready (rs := [5]) (by kernel_rfl) (by simp) ?_
        refine (AllReadyH.cons rfl (fun KK hK => ?_) AllReadyH.nil)
        go_simp
        have hb : Below y2.heap.size y2 (y2.alloc (.cells #[.int .i64 (x1 : Int), .int .i64 (x2 : Int)] 36)) := (Below.refl _ _).alloc (Nat.le_refl _) _
        have LB : Hid (Box2 (y2.alloc (.cells #[.int .i64 (x1 : Int), .int .i64 (x2 : Int)] 36)) y2.heap.size 36 (.int .i64 (x1 : Int)) (.int .i64 (x2 : Int))) := Box2.made _ _ _ _
        replace X0 : Hid (Box3 (y2.alloc (.cells #[.int .i64 (x1 : Int), .int .i64 (x2 : Int)] 36)) w.heap.size 25 (.int .i64 0) (.slice none 0 0) (.string ⟨#[]⟩)) := X0.out.below hb
        replace XS : Hid (Box3 (y2.alloc (.cells #[.int .i64 (x1 : Int), .int .i64 (x2 : Int)] 36)) sb 25 (.int .i64 (x0 : Int)) v0 (.string ⟨#[]⟩)) := XS.out.below hb
        replace RV : Hid (EO (y2.alloc (.cells #[.int .i64 (x1 : Int), .int .i64 (x2 : Int)] 36)) (sb + 1) 36 2 v0 k (pcF R)) := RV.out.below hb
        replace RD : Hid (Rdr (y2.alloc (.cells #[.int .i64 (x1 : Int), .int .i64 (x2 : Int)] 36)) (w.heap.size + 1) w.heap.size N f p2) := RD.out.below (by omega) hb
        replace H : Below w.heap.size w (y2.alloc (.cells #[.int .i64 (x1 : Int), .int .i64 (x2 : Int)] 36)) := H.trans (hb.mono H.size)
        clear hb
        generalize (y2.alloc (.cells #[.int .i64 (x1 : Int), .int .i64 (x2 : Int)] 36)) = y3 at *
        generalize y2.heap.size = lb at *
        refine hK.out _ _ H (fun _ => ?_)
        clear hK KK
        change wpAnyH _ _ _ _ _ _ _ { tmps := #[_,_,_,_,_,_,_,_,_,_,_,_,_,_,_,_,_,_,_,_,_,_,_,_,_,_,_,_,_,_,_,_,_,_,_,_,_,_,_,_,_,_,_,_,_], defers := _ } _
        refine wpAnyH_ready (rs := [6]) (by kernel_rfl) (by simp) ?_
        refine (AllReadyH.cons rfl (fun KK hK => ?_) AllReadyH.nil)
        have szl := XS.out.lt
        obtain ⟨nv, y4, hr5, hE5, hg5, hl5⟩ := appPlc y3 (sb + 1) v0 k lb R (⟨(x1 : Int), (x2 : Int)⟩ : Plc) (by omega) (by have := K16.out; omega) RV.out (fun j hj => by
            rw [Nat.zero_add]
            rcases (show j = 0 ∨ j = 1 by omega) with rfl | rfl
            · exact LB.out.c0
            · exact LB.out.c1)
        obtain ⟨na, nc, rfl⟩ := hE5.form
        have ob : ∀ g, (v0 : Value).ownBlock = some g → sb + 1 ≤ g := fun g e => (RV.out.ge g e).1
        have k5 : ∀ b, b < sb + 1 → y4.heap[b]? = y3.heap[b]? := fun b hb => hg5.block b (by omega) (fun e => by have := ob b e.symm; omega)
        have szz := SZ.out
        replace H : Below w.heap.size w y4 := H.trans ((grown_below RV.out hg5 (by omega)).mono (by omega))
        replace X0 : Hid (Box3 y4 w.heap.size 25 (.int .i64 0) (.slice none 0 0) (.string ⟨#[]⟩)) := X0.out.ofBlock (k5 _ (by omega))
        replace XS : Hid (Box3 y4 sb 25 (.int .i64 (x0 : Int)) v0 (.string ⟨#[]⟩)) := XS.out.ofBlock (k5 _ (by omega))
        replace RD : Hid (Rdr y4 (w.heap.size + 1) w.heap.size N f p2) := RD.out.keep (k5 _ (by omega)) (fun b hb => k5 b (by omega))
        have RV2 : Hid (EO y4 (sb + 1) 36 2 (.slice na (k + 1) nc) (k + 1) (pcF (updE R k ⟨(x1 : Int), (x2 : Int)⟩))) := hE5
        clear hE5 hg5 hl5 ob k5 RV LB szl szz
        rw [if_pos (by rfl)]
        refine Lib.wp_append_run _ (.tmp 26) (.tmp 30) 23 23 rfl v0 (.slice (some ⟨lb, 0, none⟩) 1 1) rfl rfl _ _ (hr5 _) ?_
        refine hK.out _ _ H (fun _ => ?_)
        clear hK KK
        change wpAnyH _ _ _ _ _ _ _ { tmps := #[_,_,_,_,_,_,_,_,_,_,_,_,_,_,_,_,_,_,_,_,_,_,_,_,_,_,_,_,_,_,_,_,_,_,_,_,_,_,_,_,_,_,_,_,_], defers := _ } _
        refine wpAnyH_take (i := 7) (v := .pointer (some ⟨sb, 1, none⟩)) rfl (by kernel_rfl) (by kernel_rfl) (by kernel_rfl) (fun _ _ _ h => h) (Or.inl ⟨by rfl, ?_⟩) H ?_
        · intro w' hSw; go_simp
        change wpAnyH _ _ _ _ _ _ _ { tmps := #[_,_,_,_,_,_,_,_,_,_,_,_,_,_,_,_,_,_,_,_,_,_,_,_,_,_,_,_,_,_,_,_,_,_,_,_,_,_,_,_,_,_,_,_,_], defers := _ } _
        refine wpAnyH_ready (rs := [8]) (by kernel_rfl) (by simp) ?_
        refine (AllReadyH.cons rfl (fun KK hK => ?_) AllReadyH.nil)
        have c1 := XS.out.c1
        have f1 := XS.out.fr 1
        go_simp
        have szz := SZ.out
        have XS2 : Hid (Box3 (y4.setCell ⟨sb, 1, none⟩ (.slice na (k + 1) nc)) sb 25 (.int .i64 (x0 : Int)) (.slice na (k + 1) nc) (.string ⟨#[]⟩)) := XS.out.set1 _
        replace X0 : Hid (Box3 (y4.setCell ⟨sb, 1, none⟩ (.slice na (k + 1) nc)) w.heap.size 25 (.int .i64 0) (.slice none 0 0) (.string ⟨#[]⟩)) := X0.out.other (by show w.heap.size ≠ sb; omega) _
        replace RD : Hid (Rdr (y4.setCell ⟨sb, 1, none⟩ (.slice na (k + 1) nc)) (w.heap.size + 1) w.heap.size N f p2) := RD.out.keep (heap_setOtherS _ _ (by show w.heap.size + 1 ≠ sb; omega)) (fun b hb => heap_setOtherS _ _ (by show b ≠ sb; omega))
        replace RV2 : Hid (EO (y4.setCell ⟨sb, 1, none⟩ (.slice na (k + 1) nc)) (sb + 1) 36 2 (.slice na (k + 1) nc) (k + 1) (pcF (updE R k ⟨(x1 : Int), (x2 : Int)⟩))) := RV2.out.keep (fun g e => heap_setOtherS _ _ (by have := (RV2.out.ge g e).1; show g ≠ sb; omega))
        replace H : Below w.heap.size w (y4.setCell ⟨sb, 1, none⟩ (.slice na (k + 1) nc)) := H.setCell (by show w.heap.size ≤ sb; omega) _
        clear c1 f1 XS szz
        generalize y4.setCell ⟨sb, 1, none⟩ (.slice na (k + 1) nc) = y5 at *
        refine hK.out _ _ H (fun _ => ?_)
        clear hK KK
        change wpAnyH _ _ _ _ _ _ _ { tmps := #[_,_,_,_,_,_,_,_,_,_,_,_,_,_,_,_,_,_,_,_,_,_,_,_,_,_,_,_,_,_,_,_,_,_,_,_,_,_,_,_,_,_,_,_,_], defers := _ } _
        refine wpAnyH_done (by kernel_rfl) ?_ _
        refine NoPanic.normal ?_
        have B9 : Hid (Below w.heap.size w y5) := H
        have IV2 : Hid ((p2 = none ∧ N < 2 + 3 * cnt) ∨ (p2 = some (2 + 3 * (k + 1)) ∧ x0 = sZ f ∧ ∀ i, i < k + 1 → updE R k ⟨(x1 : Int), (x2 : Int)⟩ i = sP f i)) := by
          show _ ∨ _
          have hk := HK.out
          rcases IV.out with ⟨e, e2⟩ | ⟨e, e2, e3⟩
          · refine .inl ⟨?_, e2⟩
            rcases NX1.out with ⟨q, _⟩ | ⟨P, q, _⟩
            · rcases NX2.out with ⟨r, _⟩ | ⟨P, r, _⟩
              · exact r
              · rw [q] at r; cases r
            · rw [e] at q; cases q
          · rcases NX1.out with ⟨q, q2⟩ | ⟨P, q, q2, q3, q4⟩
            · refine .inl ⟨?_, ?_⟩
              · rcases NX2.out with ⟨r, _⟩ | ⟨P, r, _⟩
                · exact r
                · rw [q] at r; cases r
              · rcases q2 with q2 | ⟨P, q2, q5⟩
                · rw [e] at q2; cases q2
                · rw [e] at q2; cases q2; omega
            · rw [e] at q
              cases q
              rcases NX2.out with ⟨r, r2⟩ | ⟨P, r, r2, r3, r4⟩
              · refine .inl ⟨r, ?_⟩
                rcases r2 with r2 | ⟨P, r2, r5⟩
                · rw [q3] at r2; cases r2
                · rw [q3] at r2; cases r2; omega
              · rw [q3] at r
                cases r
                refine .inr ⟨by rw [r3]; congr 1, e2, fun i hi => ?_⟩
                unfold updE
                by_cases ei : i = k
                · subst ei
                  rw [if_pos rfl, q4, r4]
                  rfl
                · rw [if_neg ei]; exact e3 i (by omega)
        clear H IV NX1 NX2
        go_wp2
        go_roundw
        case rel => exact ⟨k + 1, _, _, p2, by have := HK.out; omega, by go_num, X0.out, XS2.out, RV2.out, RD.out, IV2.out, B9.out⟩
        case measure => have := HK.out; simp [intOf]; omega
      · skip
        go_simp
        refine (NU1.out _ p RD.out).mono ?_
        rintro e y1 ⟨⟨x1, p1, rfl, hrd, hnx, hlt1⟩, ho⟩
        replace RD : Hid (Rdr y1 (w.heap.size + 1) w.heap.size N f p1) := hrd
        have NX1 : Hid (Nxt N 1 p p1 (fun P => x1 = valN (fun i => f (P + i)) 1)) := hnx
        have SBL : sb < y0.heap.size := XS.out.lt
        replace X0 : Hid (Box3 y1 w.heap.size 25 (.int .i64 0) (.slice none 0 0) (.string ⟨#[]⟩)) := X0.out.ofBlock (ho.block _ X0.out.lt (by omega))
        replace XS : Hid (Box3 y1 sb 25 (.int .i64 (x0 : Int)) v0 (.string ⟨#[]⟩)) := XS.out.ofBlock (ho.block _ XS.out.lt (by have := SZ.out; omega))
        replace RV : Hid (EO y1 (sb + 1) 36 2 v0 k (pcF R)) := RV.out.onlyB ho (by have := SZ.out; omega)
        replace H : Below w.heap.size w y1 := H.trans (ho.toBelow (by omega) H.size)
        clear hrd hnx ho hlt1 SBL
        refine hK.out _ _ H (fun _ => ?_)
        clear hK KK
        change wpAnyH _ _ _ _ _ _ _ { tmps := #[_,_,_,_,_,_,_,_,_,_,_,_,_,_,_,_,_,_,_,_,_,_,_,_,_,_,_,_,_,_,_,_,_,_,_,_,_,_,_,_,_,_,_,_,_], defers := _ } _
        refine wpAnyH_ready (rs := [1, 3]) (by kernel_rfl) (by simp) ?_
        refine (AllReadyH.cons rfl (fun KK hK => ?_) (AllReadyH.cons rfl (fun KK hK => ?_) AllReadyH.nil))
        · skip
          have c1 := XS.out.c1
          go_simp
          refine hK.out _ _ H (fun _ => ?_)
          clear hK KK
          change wpAnyH _ _ _ _ _ _ _ { tmps := #[_,_,_,_,_,_,_,_,_,_,_,_,_,_,_,_,_,_,_,_,_,_,_,_,_,_,_,_,_,_,_,_,_,_,_,_,_,_,_,_,_,_,_,_,_], defers := _ } _
          refine wpAnyH_ready (rs := [3]) (by kernel_rfl) (by simp) ?_
          refine (AllReadyH.cons rfl (fun KK hK => ?_) AllReadyH.nil)
          go_simp
          refine (NU2.out _ p1 RD.out).mono ?_
          rintro e y2 ⟨⟨x2, p2, rfl, hrd, hnx, hlt2⟩, ho⟩
          replace RD : Hid (Rdr y2 (w.heap.size + 1) w.heap.size N f p2) := hrd
          have NX2 : Hid (Nxt N 2 p1 p2 (fun P => x2 = valN (fun i => f (P + i)) 2)) := hnx
          have SBL : sb < y1.heap.size := XS.out.lt
          replace X0 : Hid (Box3 y2 w.heap.size 25 (.int .i64 0) (.slice none 0 0) (.string ⟨#[]⟩)) := X0.out.ofBlock (ho.block _ X0.out.lt (by omega))
          replace XS : Hid (Box3 y2 sb 25 (.int .i64 (x0 : Int)) v0 (.string ⟨#[]⟩)) := XS.out.ofBlock (ho.block _ XS.out.lt (by have := SZ.out; omega))
          replace RV : Hid (EO y2 (sb + 1) 36 2 v0 k (pcF R)) := RV.out.onlyB ho (by have := SZ.out; omega)
          replace H : Below w.heap.size w y2 := H.trans (ho.toBelow (by omega) H.size)
          clear hrd hnx ho hlt2 SBL
          refine hK.out _ _ H (fun _ => ?_)
          clear hK KK
          change wpAnyH _ _ _ _ _ _ _ { tmps := #[_,_,_,_,_,_,_,_,_,_,_,_,_,_,_,_,_,_,_,_,_,_,_,_,_,_,_,_,_,_,_,_,_,_,_,_,_,_,_,_,_,_,_,_,_], defers := _ } _
          refine wpAnyH_take (i := 4) (v := .agg #[.int .i64 (x1 : Int), .int .i64 (x2 : Int)]) rfl (by kernel_rfl) (by kernel_rfl) (by kernel_rfl) (fun _ _ _ h => h) (Or.inl ⟨by rfl, ?_⟩) H ?_
          · intro w' hSw; go_simp
          change wpAnyH _ _ _ _ _ _ _ { tmps := #[_,_,_,_,_,_,_,_,_,_,_,_,_,_,_,_,_,_,_,_,_,_,_,_,_,_,_,_,_,_,_,_,_,_,_,_,_,_,_,_,_,_,_,_,_], defers := _ } _
          refine wpAnyH_ready (rs := [5]) (by kernel_rfl) (by simp) ?_
          refine (AllReadyH.cons rfl (fun KK hK => ?_) AllReadyH.nil)
          go_simp
          have hb : Below y2.heap.size y2 (y2.alloc (.cells #[.int .i64 (x1 : Int), .int .i64 (x2 : Int)] 36)) := (Below.refl _ _).alloc (Nat.le_refl _) _
          have LB : Hid (Box2 (y2.alloc (.cells #[.int .i64 (x1 : Int), .int .i64 (x2 : Int)] 36)) y2.heap.size 36 (.int .i64 (x1 : Int)) (.int .i64 (x2 : Int))) := Box2.made _ _ _ _
          replace X0 : Hid (Box3 (y2.alloc (.cells #[.int .i64 (x1 : Int), .int .i64 (x2 : Int)] 36)) w.heap.size 25 (.int .i64 0) (.slice none 0 0) (.string ⟨#[]⟩)) := X0.out.below hb
          replace XS : Hid (Box3 (y2.alloc (.cells #[.int .i64 (x1 : Int), .int .i64 (x2 : Int)] 36)) sb 25 (.int .i64 (x0 : Int)) v0 (.string ⟨#[]⟩)) := XS.out.below hb
          replace RV : Hid (EO (y2.alloc (.cells #[.int .i64 (x1 : Int), .int .i64 (x2 : Int)] 36)) (sb + 1) 36 2 v0 k (pcF R)) := RV.out.below hb
          replace RD : Hid (Rdr (y2.alloc (.cells #[.int .i64 (x1 : Int), .int .i64 (x2 : Int)] 36)) (w.heap.size + 1) w.heap.size N f p2) := RD.out.below (by omega) hb
          replace H : Below w.heap.size w (y2.alloc (.cells #[.int .i64 (x1 : Int), .int .i64 (x2 : Int)] 36)) := H.trans (hb.mono H.size)
          clear hb
          generalize (y2.alloc (.cells #[.int .i64 (x1 : Int), .int .i64 (x2 : Int)] 36)) = y3 at *
          generalize y2.heap.size = lb at *
          refine hK.out _ _ H (fun _ => ?_)
          clear hK KK
          change wpAnyH _ _ _ _ _ _ _ { tmps := #[_,_,_,_,_,_,_,_,_,_,_,_,_,_,_,_,_,_,_,_,_,_,_,_,_,_,_,_,_,_,_,_,_,_,_,_,_,_,_,_,_,_,_,_,_], defers := _ } _
          refine wpAnyH_ready (rs := [6]) (by kernel_rfl) (by simp) ?_
          refine (AllReadyH.cons rfl (fun KK hK => ?_) AllReadyH.nil)
          have szl := XS.out.lt
          obtain ⟨nv, y4, hr5, hE5, hg5, hl5⟩ := appPlc y3 (sb + 1) v0 k lb R (⟨(x1 : Int), (x2 : Int)⟩ : Plc) (by omega) (by have := K16.out; omega) RV.out (fun j hj => by
              rw [Nat.zero_add]
              rcases (show j = 0 ∨ j = 1 by omega) with rfl | rfl
              · exact LB.out.c0
              · exact LB.out.c1)
          obtain ⟨na, nc, rfl⟩ := hE5.form
          have ob : ∀ g, (v0 : Value).ownBlock = some g → sb + 1 ≤ g := fun g e => (RV.out.ge g e).1
          have k5 : ∀ b, b < sb + 1 → y4.heap[b]? = y3.heap[b]? := fun b hb => hg5.block b (by omega) (fun e => by have := ob b e.symm; omega)
          have szz := SZ.out
          replace H : Below w.heap.size w y4 := H.trans ((grown_below RV.out hg5 (by omega)).mono (by omega))
          replace X0 : Hid (Box3 y4 w.heap.size 25 (.int .i64 0) (.slice none 0 0) (.string ⟨#[]⟩)) := X0.out.ofBlock (k5 _ (by omega))
          replace XS : Hid (Box3 y4 sb 25 (.int .i64 (x0 : Int)) v0 (.string ⟨#[]⟩)) := XS.out.ofBlock (k5 _ (by omega))
          replace RD : Hid (Rdr y4 (w.heap.size + 1) w.heap.size N f p2) := RD.out.keep (k5 _ (by omega)) (fun b hb => k5 b (by omega))
          have RV2 : Hid (EO y4 (sb + 1) 36 2 (.slice na (k + 1) nc) (k + 1) (pcF (updE R k ⟨(x1 : Int), (x2 : Int)⟩))) := hE5
          clear hE5 hg5 hl5 ob k5 RV LB szl szz
          rw [if_pos (by rfl)]
          refine Lib.wp_append_run _ (.tmp 26) (.tmp 30) 23 23 rfl v0 (.slice (some ⟨lb, 0, none⟩) 1 1) rfl rfl _ _ (hr5 _) ?_
          refine hK.out _ _ H (fun _ => ?_)
          clear hK KK
          change wpAnyH _ _ _ _ _ _ _ { tmps := #[_,_,_,_,_,_,_,_,_,_,_,_,_,_,_,_,_,_,_,_,_,_,_,_,_,_,_,_,_,_,_,_,_,_,_,_,_,_,_,_,_,_,_,_,_], defers := _ } _
          refine wpAnyH_take (i := 7) (v := .pointer (some ⟨sb, 1, none⟩)) rfl (by kernel_rfl) (by kernel_rfl) (by kernel_rfl) (fun _ _ _ h => h) (Or.inl ⟨by rfl, ?_⟩) H ?_
          · intro w' hSw; go_simp
          change wpAnyH _ _ _ _ _ _ _ { tmps := #[_,_,_,_,_,_,_,_,_,_,_,_,_,_,_,_,_,_,_,_,_,_,_,_,_,_,_,_,_,_,_,_,_,_,_,_,_,_,_,_,_,_,_,_,_], defers := _ } _
          refine wpAnyH_ready (rs := [8]) (by kernel_rfl) (by simp) ?_
          refine (AllReadyH.cons rfl (fun KK hK => ?_) AllReadyH.nil)
          have c1 := XS.out.c1
          have f1 := XS.out.fr 1
          go_simp
          have szz := SZ.out
          have XS2 : Hid (Box3 (y4.setCell ⟨sb, 1, none⟩ (.slice na (k + 1) nc)) sb 25 (.int .i64 (x0 : Int)) (.slice na (k + 1) nc) (.string ⟨#[]⟩)) := XS.out.set1 _
          replace X0 : Hid (Box3 (y4.setCell ⟨sb, 1, none⟩ (.slice na (k + 1) nc)) w.heap.size 25 (.int .i64 0) (.slice none 0 0) (.string ⟨#[]⟩)) := X0.out.other (by show w.heap.size ≠ sb; omega) _
          replace RD : Hid (Rdr (y4.setCell ⟨sb, 1, none⟩ (.slice na (k + 1) nc)) (w.heap.size + 1) w.heap.size N f p2) := RD.out.keep (heap_setOtherS _ _ (by show w.heap.size + 1 ≠ sb; omega)) (fun b hb => heap_setOtherS _ _ (by show b ≠ sb; omega))
          replace RV2 : Hid (EO (y4.setCell ⟨sb, 1, none⟩ (.slice na (k + 1) nc)) (sb + 1) 36 2 (.slice na (k + 1) nc) (k + 1) (pcF (updE R k ⟨(x1 : Int), (x2 : Int)⟩))) := RV2.out.keep (fun g e => heap_setOtherS _ _ (by have := (RV2.out.ge g e).1; show g ≠ sb; omega))
          replace H : Below w.heap.size w (y4.setCell ⟨sb, 1, none⟩ (.slice na (k + 1) nc)) := H.setCell (by show w.heap.size ≤ sb; omega) _
          clear c1 f1 XS szz
          generalize y4.setCell ⟨sb, 1, none⟩ (.slice na (k + 1) nc) = y5 at *
          refine hK.out _ _ H (fun _ => ?_)
          clear hK KK
          change wpAnyH _ _ _ _ _ _ _ { tmps := #[_,_,_,_,_,_,_,_,_,_,_,_,_,_,_,_,_,_,_,_,_,_,_,_,_,_,_,_,_,_,_,_,_,_,_,_,_,_,_,_,_,_,_,_,_], defers := _ } _
          refine wpAnyH_done (by kernel_rfl) ?_ _
          refine NoPanic.normal ?_
          have B9 : Hid (Below w.heap.size w y5) := H
          have IV2 : Hid ((p2 = none ∧ N < 2 + 3 * cnt) ∨ (p2 = some (2 + 3 * (k + 1)) ∧ x0 = sZ f ∧ ∀ i, i < k + 1 → updE R k ⟨(x1 : Int), (x2 : Int)⟩ i = sP f i)) := by
            show _ ∨ _
            have hk := HK.out
            rcases IV.out with ⟨e, e2⟩ | ⟨e, e2, e3⟩
            · refine .inl ⟨?_, e2⟩
              rcases NX1.out with ⟨q, _⟩ | ⟨P, q, _⟩
              · rcases NX2.out with ⟨r, _⟩ | ⟨P, r, _⟩
                · exact r
                · rw [q] at r; cases r
              · rw [e] at q; cases q
            · rcases NX1.out with ⟨q, q2⟩ | ⟨P, q, q2, q3, q4⟩
              · refine .inl ⟨?_, ?_⟩
                · rcases NX2.out with ⟨r, _⟩ | ⟨P, r, _⟩
                  · exact r
                  · rw [q] at r; cases r
                · rcases q2 with q2 | ⟨P, q2, q5⟩
                  · rw [e] at q2; cases q2
                  · rw [e] at q2; cases q2; omega
              · rw [e] at q
                cases q
                rcases NX2.out with ⟨r, r2⟩ | ⟨P, r, r2, r3, r4⟩
                · refine .inl ⟨r, ?_⟩
                  rcases r2 with r2 | ⟨P, r2, r5⟩
                  · rw [q3] at r2; cases r2
                  · rw [q3] at r2; cases r2; omega
                · rw [q3] at r
                  cases r
                  refine .inr ⟨by rw [r3]; congr 1, e2, fun i hi => ?_⟩
                  unfold updE
                  by_cases ei : i = k
                  · subst ei
                    rw [if_pos rfl, q4, r4]
                    rfl
                  · rw [if_neg ei]; exact e3 i (by omega)
          clear H IV NX1 NX2
          go_wp2
          go_roundw
          case rel => exact ⟨k + 1, _, _, p2, by have := HK.out; omega, by go_num, X0.out, XS2.out, RV2.out, RD.out, IV2.out, B9.out⟩
          case measure => have := HK.out; simp [intOf]; omega
        · skip
          go_simp
          refine (NU2.out _ p1 RD.out).mono ?_
          rintro e y2 ⟨⟨x2, p2, rfl, hrd, hnx, hlt2⟩, ho⟩
          replace RD : Hid (Rdr y2 (w.heap.size + 1) w.heap.size N f p2) := hrd
          have NX2 : Hid (Nxt N 2 p1 p2 (fun P => x2 = valN (fun i => f (P + i)) 2)) := hnx
          have SBL : sb < y1.heap.size := XS.out.lt
          replace X0 : Hid (Box3 y2 w.heap.size 25 (.int .i64 0) (.slice none 0 0) (.string ⟨#[]⟩)) := X0.out.ofBlock (ho.block _ X0.out.lt (by omega))
          replace XS : Hid (Box3 y2 sb 25 (.int .i64 (x0 : Int)) v0 (.string ⟨#[]⟩)) := XS.out.ofBlock (ho.block _ XS.out.lt (by have := SZ.out; omega))
          replace RV : Hid (EO y2 (sb + 1) 36 2 v0 k (pcF R)) := RV.out.onlyB ho (by have := SZ.out; omega)
          replace H : Below w.heap.size w y2 := H.trans (ho.toBelow (by omega) H.size)
          clear hrd hnx ho hlt2 SBL
          refine hK.out _ _ H (fun _ => ?_)
          clear hK KK
          change wpAnyH _ _ _ _ _ _ _ { tmps := #[_,_,_,_,_,_,_,_,_,_,_,_,_,_,_,_,_,_,_,_,_,_,_,_,_,_,_,_,_,_,_,_,_,_,_,_,_,_,_,_,_,_,_,_,_], defers := _ } _
          refine wpAnyH_take (i := 4) (v := .agg #[.int .i64 (x1 : Int), .int .i64 (x2 : Int)]) rfl (by kernel_rfl) (by kernel_rfl) (by kernel_rfl) (fun _ _ _ h => h) (Or.inl ⟨by rfl, ?_⟩) H ?_
          · intro w' hSw; go_simp
          change wpAnyH _ _ _ _ _ _ _ { tmps := #[_,_,_,_,_,_,_,_,_,_,_,_,_,_,_,_,_,_,_,_,_,_,_,_,_,_,_,_,_,_,_,_,_,_,_,_,_,_,_,_,_,_,_,_,_], defers := _ } _
          refine wpAnyH_ready (rs := [1, 5]) (by kernel_rfl) (by simp) ?_
          refine (AllReadyH.cons rfl (fun KK hK => ?_) (AllReadyH.cons rfl (fun KK hK => ?_) AllReadyH.nil))
          · skip
            have c1 := XS.out.c1
            go_simp
            refine hK.out _ _ H (fun _ => ?_)
            clear hK KK
            change wpAnyH _ _ _ _ _ _ _ { tmps := #[_,_,_,_,_,_,_,_,_,_,_,_,_,_,_,_,_,_,_,_,_,_,_,_,_,_,_,_,_,_,_,_,_,_,_,_,_,_,_,_,_,_,_,_,_], defers := _ } _
            refine wpAnyH_ready (rs := [5]) (by kernel_rfl) (by simp) ?_
            refine (AllReadyH.cons rfl (fun KK hK => ?_) AllReadyH.nil)
            go_simp
            have hb : Below y2.heap.size y2 (y2.alloc (.cells #[.int .i64 (x1 : Int), .int .i64 (x2 : Int)] 36)) := (Below.refl _ _).alloc (Nat.le_refl _) _
            have LB : Hid (Box2 (y2.alloc (.cells #[.int .i64 (x1 : Int), .int .i64 (x2 : Int)] 36)) y2.heap.size 36 (.int .i64 (x1 : Int)) (.int .i64 (x2 : Int))) := Box2.made _ _ _ _
            replace X0 : Hid (Box3 (y2.alloc (.cells #[.int .i64 (x1 : Int), .int .i64 (x2 : Int)] 36)) w.heap.size 25 (.int .i64 0) (.slice none 0 0) (.string ⟨#[]⟩)) := X0.out.below hb
            replace XS : Hid (Box3 (y2.alloc (.cells #[.int .i64 (x1 : Int), .int .i64 (x2 : Int)] 36)) sb 25 (.int .i64 (x0 : Int)) v0 (.string ⟨#[]⟩)) := XS.out.below hb
            replace RV : Hid (EO (y2.alloc (.cells #[.int .i64 (x1 : Int), .int .i64 (x2 : Int)] 36)) (sb + 1) 36 2 v0 k (pcF R)) := RV.out.below hb
            replace RD : Hid (Rdr (y2.alloc (.cells #[.int .i64 (x1 : Int), .int .i64 (x2 : Int)] 36)) (w.heap.size + 1) w.heap.size N f p2) := RD.out.below (by omega) hb
            replace H : Below w.heap.size w (y2.alloc (.cells #[.int .i64 (x1 : Int), .int .i64 (x2 : Int)] 36)) := H.trans (hb.mono H.size)
            clear hb
            generalize (y2.alloc (.cells #[.int .i64 (x1 : Int), .int .i64 (x2 : Int)] 36)) = y3 at *
            generalize y2.heap.size = lb at *
            refine hK.out _ _ H (fun _ => ?_)
            clear hK KK
            change wpAnyH _ _ _ _ _ _ _ { tmps := #[_,_,_,_,_,_,_,_,_,_,_,_,_,_,_,_,_,_,_,_,_,_,_,_,_,_,_,_,_,_,_,_,_,_,_,_,_,_,_,_,_,_,_,_,_], defers := _ } _
            refine wpAnyH_ready (rs := [6]) (by kernel_rfl) (by simp) ?_
            refine (AllReadyH.cons rfl (fun KK hK => ?_) AllReadyH.nil)
            have szl := XS.out.lt
            obtain ⟨nv, y4, hr5, hE5, hg5, hl5⟩ := appPlc y3 (sb + 1) v0 k lb R (⟨(x1 : Int), (x2 : Int)⟩ : Plc) (by omega) (by have := K16.out; omega) RV.out (fun j hj => by
                rw [Nat.zero_add]
                rcases (show j = 0 ∨ j = 1 by omega) with rfl | rfl
                · exact LB.out.c0
                · exact LB.out.c1)
            obtain ⟨na, nc, rfl⟩ := hE5.form
            have ob : ∀ g, (v0 : Value).ownBlock = some g → sb + 1 ≤ g := fun g e => (RV.out.ge g e).1
            have k5 : ∀ b, b < sb + 1 → y4.heap[b]? = y3.heap[b]? := fun b hb => hg5.block b (by omega) (fun e => by have := ob b e.symm; omega)
            have szz := SZ.out
            replace H : Below w.heap.size w y4 := H.trans ((grown_below RV.out hg5 (by omega)).mono (by omega))
            replace X0 : Hid (Box3 y4 w.heap.size 25 (.int .i64 0) (.slice none 0 0) (.string ⟨#[]⟩)) := X0.out.ofBlock (k5 _ (by omega))
            replace XS : Hid (Box3 y4 sb 25 (.int .i64 (x0 : Int)) v0 (.string ⟨#[]⟩)) := XS.out.ofBlock (k5 _ (by omega))
            replace RD : Hid (Rdr y4 (w.heap.size + 1) w.heap.size N f p2) := RD.out.keep (k5 _ (by omega)) (fun b hb => k5 b (by omega))
            have RV2 : Hid (EO y4 (sb + 1) 36 2 (.slice na (k + 1) nc) (k + 1) (pcF (updE R k ⟨(x1 : Int), (x2 : Int)⟩))) := hE5
            clear hE5 hg5 hl5 ob k5 RV LB szl szz
            rw [if_pos (by rfl)]
            refine Lib.wp_append_run _ (.tmp 26) (.tmp 30) 23 23 rfl v0 (.slice (some ⟨lb, 0, none⟩) 1 1) rfl rfl _ _ (hr5 _) ?_
            refine hK.out _ _ H (fun _ => ?_)
            clear hK KK
            change wpAnyH _ _ _ _ _ _ _ { tmps := #[_,_,_,_,_,_,_,_,_,_,_,_,_,_,_,_,_,_,_,_,_,_,_,_,_,_,_,_,_,_,_,_,_,_,_,_,_,_,_,_,_,_,_,_,_], defers := _ } _
            refine wpAnyH_take (i := 7) (v := .pointer (some ⟨sb, 1, none⟩)) rfl (by kernel_rfl) (by kernel_rfl) (by kernel_rfl) (fun _ _ _ h => h) (Or.inl ⟨by rfl, ?_⟩) H ?_
            · intro w' hSw; go_simp
            change wpAnyH _ _ _ _ _ _ _ { tmps := #[_,_,_,_,_,_,_,_,_,_,_,_,_,_,_,_,_,_,_,_,_,_,_,_,_,_,_,_,_,_,_,_,_,_,_,_,_,_,_,_,_,_,_,_,_], defers := _ } _
            refine wpAnyH_ready (rs := [8]) (by kernel_rfl) (by simp) ?_
            refine (AllReadyH.cons rfl (fun KK hK => ?_) AllReadyH.nil)
            have c1 := XS.out.c1
            have f1 := XS.out.fr 1
            go_simp
            have szz := SZ.out
            have XS2 : Hid (Box3 (y4.setCell ⟨sb, 1, none⟩ (.slice na (k + 1) nc)) sb 25 (.int .i64 (x0 : Int)) (.slice na (k + 1) nc) (.string ⟨#[]⟩)) := XS.out.set1 _
            replace X0 : Hid (Box3 (y4.setCell ⟨sb, 1, none⟩ (.slice na (k + 1) nc)) w.heap.size 25 (.int .i64 0) (.slice none 0 0) (.string ⟨#[]⟩)) := X0.out.other (by show w.heap.size ≠ sb; omega) _
            replace RD : Hid (Rdr (y4.setCell ⟨sb, 1, none⟩ (.slice na (k + 1) nc)) (w.heap.size + 1) w.heap.size N f p2) := RD.out.keep (heap_setOtherS _ _ (by show w.heap.size + 1 ≠ sb; omega)) (fun b hb => heap_setOtherS _ _ (by show b ≠ sb; omega))
            replace RV2 : Hid (EO (y4.setCell ⟨sb, 1, none⟩ (.slice na (k + 1) nc)) (sb + 1) 36 2 (.slice na (k + 1) nc) (k + 1) (pcF (updE R k ⟨(x1 : Int), (x2 : Int)⟩))) := RV2.out.keep (fun g e => heap_setOtherS _ _ (by have := (RV2.out.ge g e).1; show g ≠ sb; omega))
            replace H : Below w.heap.size w (y4.setCell ⟨sb, 1, none⟩ (.slice na (k + 1) nc)) := H.setCell (by show w.heap.size ≤ sb; omega) _
            clear c1 f1 XS szz
            generalize y4.setCell ⟨sb, 1, none⟩ (.slice na (k + 1) nc) = y5 at *
            refine hK.out _ _ H (fun _ => ?_)
            clear hK KK
            change wpAnyH _ _ _ _ _ _ _ { tmps := #[_,_,_,_,_,_,_,_,_,_,_,_,_,_,_,_,_,_,_,_,_,_,_,_,_,_,_,_,_,_,_,_,_,_,_,_,_,_,_,_,_,_,_,_,_], defers := _ } _
            refine wpAnyH_done (by kernel_rfl) ?_ _
            refine NoPanic.normal ?_
            have B9 : Hid (Below w.heap.size w y5) := H
            have IV2 : Hid ((p2 = none ∧ N < 2 + 3 * cnt) ∨ (p2 = some (2 + 3 * (k + 1)) ∧ x0 = sZ f ∧ ∀ i, i < k + 1 → updE R k ⟨(x1 : Int), (x2 : Int)⟩ i = sP f i)) := by
              show _ ∨ _
              have hk := HK.out
              rcases IV.out with ⟨e, e2⟩ | ⟨e, e2, e3⟩
              · refine .inl ⟨?_, e2⟩
                rcases NX1.out with ⟨q, _⟩ | ⟨P, q, _⟩
                · rcases NX2.out with ⟨r, _⟩ | ⟨P, r, _⟩
                  · exact r
                  · rw [q] at r; cases r
                · rw [e] at q; cases q
              · rcases NX1.out with ⟨q, q2⟩ | ⟨P, q, q2, q3, q4⟩
                · refine .inl ⟨?_, ?_⟩
                  · rcases NX2.out with ⟨r, _⟩ | ⟨P, r, _⟩
                    · exact r
                    · rw [q] at r; cases r
                  · rcases q2 with q2 | ⟨P, q2, q5⟩
                    · rw [e] at q2; cases q2
                    · rw [e] at q2; cases q2; omega
                · rw [e] at q
                  cases q
                  rcases NX2.out with ⟨r, r2⟩ | ⟨P, r, r2, r3, r4⟩
                  · refine .inl ⟨r, ?_⟩
                    rcases r2 with r2 | ⟨P, r2, r5⟩
                    · rw [q3] at r2; cases r2
                    · rw [q3] at r2; cases r2; omega
                  · rw [q3] at r
                    cases r
                    refine .inr ⟨by rw [r3]; congr 1, e2, fun i hi => ?_⟩
                    unfold updE
                    by_cases ei : i = k
                    · subst ei
                      rw [if_pos rfl, q4, r4]
                      rfl
                    · rw [if_neg ei]; exact e3 i (by omega)
            clear H IV NX1 NX2
            go_wp2
            go_roundw
            case rel => exact ⟨k + 1, _, _, p2, by have := HK.out; omega, by go_num, X0.out, XS2.out, RV2.out, RD.out, IV2.out, B9.out⟩
            case measure => have := HK.out; simp [intOf]; omega
          · skip
            go_simp
            have hb : Below y2.heap.size y2 (y2.alloc (.cells #[.int .i64 (x1 : Int), .int .i64 (x2 : Int)] 36)) := (Below.refl _ _).alloc (Nat.le_refl _) _
            have LB : Hid (Box2 (y2.alloc (.cells #[.int .i64 (x1 : Int), .int .i64 (x2 : Int)] 36)) y2.heap.size 36 (.int .i64 (x1 : Int)) (.int .i64 (x2 : Int))) := Box2.made _ _ _ _
            replace X0 : Hid (Box3 (y2.alloc (.cells #[.int .i64 (x1 : Int), .int .i64 (x2 : Int)] 36)) w.heap.size 25 (.int .i64 0) (.slice none 0 0) (.string ⟨#[]⟩)) := X0.out.below hb
            replace XS : Hid (Box3 (y2.alloc (.cells #[.int .i64 (x1 : Int), .int .i64 (x2 : Int)] 36)) sb 25 (.int .i64 (x0 : Int)) v0 (.string ⟨#[]⟩)) := XS.out.below hb
            replace RV : Hid (EO (y2.alloc (.cells #[.int .i64 (x1 : Int), .int .i64 (x2 : Int)] 36)) (sb + 1) 36 2 v0 k (pcF R)) := RV.out.below hb
            replace RD : Hid (Rdr (y2.alloc (.cells #[.int .i64 (x1 : Int), .int .i64 (x2 : Int)] 36)) (w.heap.size + 1) w.heap.size N f p2) := RD.out.below (by omega) hb
            replace H : Below w.heap.size w (y2.alloc (.cells #[.int .i64 (x1 : Int), .int .i64 (x2 : Int)] 36)) := H.trans (hb.mono H.size)
            clear hb
            generalize (y2.alloc (.cells #[.int .i64 (x1 : Int), .int .i64 (x2 : Int)] 36)) = y3 at *
            generalize y2.heap.size = lb at *
            refine hK.out _ _ H (fun _ => ?_)
            clear hK KK
            change wpAnyH _ _ _ _ _ _ _ { tmps := #[_,_,_,_,_,_,_,_,_,_,_,_,_,_,_,_,_,_,_,_,_,_,_,_,_,_,_,_,_,_,_,_,_,_,_,_,_,_,_,_,_,_,_,_,_], defers := _ } _
            refine wpAnyH_ready (rs := [1]) (by kernel_rfl) (by simp) ?_
            refine (AllReadyH.cons rfl (fun KK hK => ?_) AllReadyH.nil)
            have c1 := XS.out.c1
            go_simp
            refine hK.out _ _ H (fun _ => ?_)
            clear hK KK
            change wpAnyH _ _ _ _ _ _ _ { tmps := #[_,_,_,_,_,_,_,_,_,_,_,_,_,_,_,_,_,_,_,_,_,_,_,_,_,_,_,_,_,_,_,_,_,_,_,_,_,_,_,_,_,_,_,_,_], defers := _ } _
            refine wpAnyH_ready (rs := [6]) (by kernel_rfl) (by simp) ?_
            refine (AllReadyH.cons rfl (fun KK hK => ?_) AllReadyH.nil)
            have szl := XS.out.lt
            obtain ⟨nv, y4, hr5, hE5, hg5, hl5⟩ := appPlc y3 (sb + 1) v0 k lb R (⟨(x1 : Int), (x2 : Int)⟩ : Plc) (by omega) (by have := K16.out; omega) RV.out (fun j hj => by
                rw [Nat.zero_add]
                rcases (show j = 0 ∨ j = 1 by omega) with rfl | rfl
                · exact LB.out.c0
                · exact LB.out.c1)
            obtain ⟨na, nc, rfl⟩ := hE5.form
            have ob : ∀ g, (v0 : Value).ownBlock = some g → sb + 1 ≤ g := fun g e => (RV.out.ge g e).1
            have k5 : ∀ b, b < sb + 1 → y4.heap[b]? = y3.heap[b]? := fun b hb => hg5.block b (by omega) (fun e => by have := ob b e.symm; omega)
            have szz := SZ.out
            replace H : Below w.heap.size w y4 := H.trans ((grown_below RV.out hg5 (by omega)).mono (by omega))
            replace X0 : Hid (Box3 y4 w.heap.size 25 (.int .i64 0) (.slice none 0 0) (.string ⟨#[]⟩)) := X0.out.ofBlock (k5 _ (by omega))
            replace XS : Hid (Box3 y4 sb 25 (.int .i64 (x0 : Int)) v0 (.string ⟨#[]⟩)) := XS.out.ofBlock (k5 _ (by omega))
            replace RD : Hid (Rdr y4 (w.heap.size + 1) w.heap.size N f p2) := RD.out.keep (k5 _ (by omega)) (fun b hb => k5 b (by omega))
            have RV2 : Hid (EO y4 (sb + 1) 36 2 (.slice na (k + 1) nc) (k + 1) (pcF (updE R k ⟨(x1 : Int), (x2 : Int)⟩))) := hE5
            clear hE5 hg5 hl5 ob k5 RV LB szl szz
            rw [if_pos (by rfl)]
            refine Lib.wp_append_run _ (.tmp 26) (.tmp 30) 23 23 rfl v0 (.slice (some ⟨lb, 0, none⟩) 1 1) rfl rfl _ _ (hr5 _) ?_
            refine hK.out _ _ H (fun _ => ?_)
            clear hK KK
            change wpAnyH _ _ _ _ _ _ _ { tmps := #[_,_,_,_,_,_,_,_,_,_,_,_,_,_,_,_,_,_,_,_,_,_,_,_,_,_,_,_,_,_,_,_,_,_,_,_,_,_,_,_,_,_,_,_,_], defers := _ } _
            refine wpAnyH_take (i := 7) (v := .pointer (some ⟨sb, 1, none⟩)) rfl (by kernel_rfl) (by kernel_rfl) (by kernel_rfl) (fun _ _ _ h => h) (Or.inl ⟨by rfl, ?_⟩) H ?_
            · intro w' hSw; go_simp
            change wpAnyH _ _ _ _ _ _ _ { tmps := #[_,_,_,_,_,_,_,_,_,_,_,_,_,_,_,_,_,_,_,_,_,_,_,_,_,_,_,_,_,_,_,_,_,_,_,_,_,_,_,_,_,_,_,_,_], defers := _ } _
            refine wpAnyH_ready (rs := [8]) (by kernel_rfl) (by simp) ?_
            refine (AllReadyH.cons rfl (fun KK hK => ?_) AllReadyH.nil)
            have c1 := XS.out.c1
            have f1 := XS.out.fr 1
            go_simp
            have szz := SZ.out
            have XS2 : Hid (Box3 (y4.setCell ⟨sb, 1, none⟩ (.slice na (k + 1) nc)) sb 25 (.int .i64 (x0 : Int)) (.slice na (k + 1) nc) (.string ⟨#[]⟩)) := XS.out.set1 _
            replace X0 : Hid (Box3 (y4.setCell ⟨sb, 1, none⟩ (.slice na (k + 1) nc)) w.heap.size 25 (.int .i64 0) (.slice none 0 0) (.string ⟨#[]⟩)) := X0.out.other (by show w.heap.size ≠ sb; omega) _
            replace RD : Hid (Rdr (y4.setCell ⟨sb, 1, none⟩ (.slice na (k + 1) nc)) (w.heap.size + 1) w.heap.size N f p2) := RD.out.keep (heap_setOtherS _ _ (by show w.heap.size + 1 ≠ sb; omega)) (fun b hb => heap_setOtherS _ _ (by show b ≠ sb; omega))
            replace RV2 : Hid (EO (y4.setCell ⟨sb, 1, none⟩ (.slice na (k + 1) nc)) (sb + 1) 36 2 (.slice na (k + 1) nc) (k + 1) (pcF (updE R k ⟨(x1 : Int), (x2 : Int)⟩))) := RV2.out.keep (fun g e => heap_setOtherS _ _ (by have := (RV2.out.ge g e).1; show g ≠ sb; omega))
            replace H : Below w.heap.size w (y4.setCell ⟨sb, 1, none⟩ (.slice na (k + 1) nc)) := H.setCell (by show w.heap.size ≤ sb; omega) _
            clear c1 f1 XS szz
            generalize y4.setCell ⟨sb, 1, none⟩ (.slice na (k + 1) nc) = y5 at *
            refine hK.out _ _ H (fun _ => ?_)
            clear hK KK
            change wpAnyH _ _ _ _ _ _ _ { tmps := #[_,_,_,_,_,_,_,_,_,_,_,_,_,_,_,_,_,_,_,_,_,_,_,_,_,_,_,_,_,_,_,_,_,_,_,_,_,_,_,_,_,_,_,_,_], defers := _ } _
            refine wpAnyH_done (by kernel_rfl) ?_ _
            refine NoPanic.normal ?_
            have B9 : Hid (Below w.heap.size w y5) := H
            have IV2 : Hid ((p2 = none ∧ N < 2 + 3 * cnt) ∨ (p2 = some (2 + 3 * (k + 1)) ∧ x0 = sZ f ∧ ∀ i, i < k + 1 → updE R k ⟨(x1 : Int), (x2 : Int)⟩ i = sP f i)) := by
              show _ ∨ _
              have hk := HK.out
              rcases IV.out with ⟨e, e2⟩ | ⟨e, e2, e3⟩
              · refine .inl ⟨?_, e2⟩
                rcases NX1.out with ⟨q, _⟩ | ⟨P, q, _⟩
                · rcases NX2.out with ⟨r, _⟩ | ⟨P, r, _⟩
                  · exact r
                  · rw [q] at r; cases r
                · rw [e] at q; cases q
              · rcases NX1.out with ⟨q, q2⟩ | ⟨P, q, q2, q3, q4⟩
                · refine .inl ⟨?_, ?_⟩
                  · rcases NX2.out with ⟨r, _⟩ | ⟨P, r, _⟩
                    · exact r
                    · rw [q] at r; cases r
                  · rcases q2 with q2 | ⟨P, q2, q5⟩
                    · rw [e] at q2; cases q2
                    · rw [e] at q2; cases q2; omega
                · rw [e] at q
                  cases q
                  rcases NX2.out with ⟨r, r2⟩ | ⟨P, r, r2, r3, r4⟩
                  · refine .inl ⟨r, ?_⟩
                    rcases r2 with r2 | ⟨P, r2, r5⟩
                    · rw [q3] at r2; cases r2
                    · rw [q3] at r2; cases r2; omega
                  · rw [q3] at r
                    cases r
                    refine .inr ⟨by rw [r3]; congr 1, e2, fun i hi => ?_⟩
                    unfold updE
                    by_cases ei : i = k
                    · subst ei
                      rw [if_pos rfl, q4, r4]
                      rfl
                    · rw [if_neg ei]; exact e3 i (by omega)
            clear H IV NX1 NX2
            go_wp2
            go_roundw
            case rel => exact ⟨k + 1, _, _, p2, by have := HK.out; omega, by go_num, X0.out, XS2.out, RV2.out, RD.out, IV2.out, B9.out⟩
            case measure => have := HK.out; simp [intOf]; omega
    · obtain rfl : k = cnt := by omega
      have hz : 2 + 3 * k + 32 ≤ 100 := by omega
      clear hlt hk
      go_wp2_with fail
      refine (TX.out _ p RD.out).mono ?_
      rintro e u3 ⟨⟨x3, p3, rfl, hrd, hnx⟩, ho⟩
      have SBL : sb < wr.heap.size := XS.out.lt
      replace RD : Hid (Rdr u3 (w.heap.size + 1) w.heap.size N f p3) := hrd
      replace X0 : Hid (Box3 u3 w.heap.size 25 (.int .i64 0) (.slice none 0 0) (.string ⟨#[]⟩)) := X0.out.ofBlock (ho.block _ X0.out.lt (by omega))
      replace XS : Hid (Box3 u3 sb 25 (.int .i64 (x0 : Int)) v0 (.string ⟨#[]⟩)) := XS.out.ofBlock (ho.block _ XS.out.lt (by have := SZ.out; omega))
      replace RV : Hid (EO u3 (sb + 1) 36 2 v0 k (pcF R)) := RV.out.onlyB ho (by have := SZ.out; omega)
      replace AB : Hid (Below w.heap.size w u3) := AB.out.trans (ho.toBelow (by omega) AB.out.size)
      have W3 : Hid ((p3 = some N ∧ N = 34 + 3 * k ∧ x0 = sZ f ∧ (∀ i, i < k → R i = sP f i) ∧ x3 = kstr (fun j => f (2 + 3 * k + j)) 0 32) ∨ (p3 ≠ some N ∧ ¬ (N = 34 + 3 * k ∧ x0 = sZ f))) := by
        show _ ∨ _
        rcases IV.out with ⟨e, e2⟩ | ⟨e, e2, e3⟩
        · refine .inr ⟨fun q => ?_, fun q => by omega⟩
          rcases hnx with ⟨r, _⟩ | ⟨P, r, _⟩
          · rw [r] at q; cases q
          · rw [e] at r; cases r
        · rcases hnx with ⟨r, r2⟩ | ⟨P, r, r2, r3, r4⟩
          · refine .inr ⟨(fun q => by rw [r] at q; cases q), fun q => ?_⟩
            rcases r2 with r2 | ⟨P, r2, r5⟩
            · rw [e] at r2; cases r2
            · rw [e] at r2; cases r2; omega
          · rw [e] at r
            cases r
            by_cases en : 2 + 3 * k + 32 = N
            · exact .inl ⟨by rw [r3, en], by omega, e2, e3, r4⟩
            · exact .inr ⟨(fun q => by rw [r3] at q; exact en (Option.some.inj q)), fun q => by omega⟩
      clear hrd hnx ho SBL IV
      obtain ⟨na, nc, rfl⟩ := RV.out.form
      have c2 := XS.out.c2
      have f2 := XS.out.fr 2
      have szz := SZ.out
      have XS2 : Hid (Box3 (u3.setCell ⟨sb, 2, none⟩ (.string x3)) sb 25 (.int .i64 (x0 : Int)) (.slice na k nc) (.string x3)) := XS.out.set2 _
      replace X0 : Hid (Box3 (u3.setCell ⟨sb, 2, none⟩ (.string x3)) w.heap.size 25 (.int .i64 0) (.slice none 0 0) (.string ⟨#[]⟩)) := X0.out.other (by show w.heap.size ≠ sb; omega) _
      replace RD : Hid (Rdr (u3.setCell ⟨sb, 2, none⟩ (.string x3)) (w.heap.size + 1) w.heap.size N f p3) := RD.out.keep (heap_setOtherS _ _ (by show w.heap.size + 1 ≠ sb; omega)) (fun b hb => heap_setOtherS _ _ (by show b ≠ sb; omega))
      have RV2 : Hid (EO (u3.setCell ⟨sb, 2, none⟩ (.string x3)) (sb + 1) 36 2 (.slice na k nc) k (pcF R)) := RV.out.keep (fun g e => heap_setOtherS _ _ (by have := (RV.out.ge g e).1; show g ≠ sb; omega))
      replace AB : Hid (Below w.heap.size w (u3.setCell ⟨sb, 2, none⟩ (.string x3))) := AB.out.setCell (by show w.heap.size ≤ sb; omega) _
      go_wp2_with fail
      clear XS RV c2 f2
      generalize u3.setCell ⟨sb, 2, none⟩ (.string x3) = u4 at *
      have SLQ : Hid (SlP na k nc) := RV2.out.slp
      by_cases hp3 : p3 = some N
      · subst hp3
        obtain ⟨hN2, hxs, hRs, hx3⟩ : N = 34 + 3 * k ∧ x0 = sZ f ∧ (∀ i, i < k → R i = sP f i) ∧ x3 = kstr (fun j => f (2 + 3 * k + j)) 0 32 := by
          rcases W3.out with ⟨_, q⟩ | ⟨q, _⟩
          · exact q
          · exact absurd rfl q
        clear W3
        refine (ended_yes (w.heap.size + 1) w.heap.size N f u4 RD.out).mono ?_
        rintro e _ ⟨rfl, rfl⟩
        have RD2 : Hid (RdS N f ↔ SupOk (x0 : Int) k R x3) := by
          show _ ↔ _
          rcases HCN.out with ⟨h1, h2⟩ | ⟨h1, h2⟩
          · have e1 : k = pcsN (sZ f) := by rw [h2, hxs]
            have e2 : x3 = sR f := by rw [hx3, e1]; rfl
            rw [supOk_congr hRs]
            unfold RdS
            rw [← e1, ← hxs, ← e2]
            exact ⟨fun q => q.2, fun q => ⟨hN2, q⟩⟩
          · refine ⟨fun q => ?_, fun q => ?_⟩
            · have := q.2.1.2.1
              rw [← hxs] at this
              omega
            · have := q.1.2.1
              omega
        have SKK : Hid (∀ y : Bool, y = gB (SupOk (x0 : Int) k R x3) → Calls Tryz.prog 8 #[.agg #[.int .i64 (x0 : Int), .slice na k nc, .string x3]] u4 fun e w' => e = .returned (.bool y) ∧ Below u4.heap.size u4 w') := fun y hy => implSupOK_any (x0 : Int) na k nc R x3 SLQ.out (by omega) u4 RV2.out.els y hy
        have c0 := XS2.out.c0
        have c1 := XS2.out.c1
        have c2 := XS2.out.c2
        by_cases hs : SupOk (x0 : Int) k R x3
        · have SK1 : Hid _ := SKK.out true (gB_yes hs).symm
          have HRD : Hid (RdS N f) := RD2.out.2 hs
          have HRT : Hid (∀ (w' : World), EO w' w.heap.size 36 2 (.slice na k nc) k (pcF R) → RetSu w w' (.returned (.tuple #[.agg #[.int .i64 (x0 : Int), .slice na k nc, .string x3], .int .i64 0])) f) := fun w' ho => by
            have e1 : k = pcsN (sZ f) := by
              rcases HCN.out with ⟨h1, h2⟩ | ⟨h1, h2⟩
              · rw [h2, hxs]
              · have := hs.1.2.1; omega
            have e2 : x3 = sR f := by rw [hx3, e1]; rfl
            have h9 := ho.congr (G := pcF (sP f)) (fun i hi j hj => by unfold pcF; rw [hRs i hi])
            refine ⟨na, nc, ?_, ?_⟩
            · rw [hxs, e2, ← e1]
            · rw [← e1]; exact h9
          clear SKK RD2 hs hN2 hxs hRs hx3
          go_wp2_with fail
          refine Calls.mono SK1.out ?_
          rintro e u5 ⟨rfl, hb⟩
          have X5 : Hid (Box3 u5 w.heap.size 25 (.int .i64 0) (.slice none 0 0) (.string ⟨#[]⟩)) := X0.out.below hb
          have S5 : Hid (Box3 u5 sb 25 (.int .i64 (x0 : Int)) (.slice na k nc) (.string x3)) := XS2.out.below hb
          have R5 : Hid (EO u5 (sb + 1) 36 2 (.slice na k nc) k (pcF R)) := RV2.out.below hb
          have B5 : Hid (Below w.heap.size w u5) := AB.out.trans (hb.mono AB.out.size)
          clear hb SK1 X0 XS2 RV2 AB c0 c1 c2
          have d0 := S5.out.c0
          have d1 := S5.out.c1
          have d2 := S5.out.c2
          have g0 := X5.out.c0
          have g1 := X5.out.c1
          have g2 := X5.out.c2
          have g3 := X5.out.fr 0
          have g4 := X5.out.fr 1
          have g5 := X5.out.fr 2
          go_wp2
          have FB : Box3 (((u5.setCell ⟨w.heap.size, 0, none⟩ (.int .i64 (x0 : Int))).setCell ⟨w.heap.size, 1, none⟩ (.slice na k nc)).setCell ⟨w.heap.size, 2, none⟩ (.string x3)) w.heap.size 25 (.int .i64 (x0 : Int)) (.slice na k nc) (.string x3) := ((X5.out.set0 _).set1 _).set2 _
          have FR : EO (((u5.setCell ⟨w.heap.size, 0, none⟩ (.int .i64 (x0 : Int))).setCell ⟨w.heap.size, 1, none⟩ (.slice na k nc)).setCell ⟨w.heap.size, 2, none⟩ (.string x3)) w.heap.size 36 2 (.slice na k nc) k (pcF R) := (R5.out.keep (fun g e => by
            have := (R5.out.ge g e).1
            exact ((heap_setOtherS _ _ (by show g ≠ w.heap.size; omega)).trans (heap_setOtherS _ _ (by show g ≠ w.heap.size; omega))).trans (heap_setOtherS _ _ (by show g ≠ w.heap.size; omega)))).mono (by omega)
          have FA : Below w.heap.size w (((u5.setCell ⟨w.heap.size, 0, none⟩ (.int .i64 (x0 : Int))).setCell ⟨w.heap.size, 1, none⟩ (.slice na k nc)).setCell ⟨w.heap.size, 2, none⟩ (.string x3)) := ((B5.out.setCell (by simp) _).setCell (by simp) _).setCell (by simp) _
          exact ret_cell2 (b := w.heap.size) Tryz.results7 rfl rfl FB.loadSup ⟨.inl ⟨HRD.out, HRT.out _ FR⟩, FA⟩
        · have SK1 : Hid _ := SKK.out false (gB_no hs).symm
          have HRD : Hid (¬ RdS N f) := fun q => hs (RD2.out.1 q)
          clear SKK RD2 hs hN2 hxs hRs hx3
          go_wp2_with fail
          refine Calls.mono SK1.out ?_
          rintro e u5 ⟨rfl, hb⟩
          have X5 : Hid (Box3 u5 w.heap.size 25 (.int .i64 0) (.slice none 0 0) (.string ⟨#[]⟩)) := X0.out.below hb
          have B5 : Hid (Below w.heap.size w u5) := AB.out.trans (hb.mono AB.out.size)
          clear hb SK1 X0 XS2 RV2 AB c0 c1 c2
          have g0 := X5.out.c0
          have g1 := X5.out.c1
          have g2 := X5.out.c2
          have g3 := X5.out.fr 0
          have g4 := X5.out.fr 1
          have g5 := X5.out.fr 2
          go_wp2
          have FB : Box3 (((u5.setCell ⟨w.heap.size, 0, none⟩ (.int .i64 0)).setCell ⟨w.heap.size, 1, none⟩ (.slice none 0 0)).setCell ⟨w.heap.size, 2, none⟩ (.string ⟨#[]⟩)) w.heap.size 25 (.int .i64 0) (.slice none 0 0) (.string ⟨#[]⟩) := ((X5.out.set0 _).set1 _).set2 _
          have FA : Below w.heap.size w (((u5.setCell ⟨w.heap.size, 0, none⟩ (.int .i64 0)).setCell ⟨w.heap.size, 1, none⟩ (.slice none 0 0)).setCell ⟨w.heap.size, 2, none⟩ (.string ⟨#[]⟩)) := ((B5.out.setCell (by simp) _).setCell (by simp) _).setCell (by simp) _
          exact ret_cell2 (b := w.heap.size) Tryz.results7 rfl rfl FB.loadSup ⟨.inr ⟨HRD.out, rfl⟩, FA⟩
      · have HRD : Hid (¬ RdS N f) := fun q => by
          rcases W3.out with ⟨q2, _⟩ | ⟨_, q2⟩
          · exact hp3 q2
          · have hz1 := q.2.1.2.1
            have e9 : x0 = sZ f ∨ x0 ≠ sZ f := Classical.em _
            rcases e9 with e9 | e9
            · refine q2 ⟨?_, e9⟩
              rcases HCN.out with ⟨h1, h2⟩ | ⟨h1, h2⟩
              · rw [h2, e9]; exact q.1
              · omega
            · have hq := q.1
              have hb2 := WX0.out e9
              omega
        refine (ended_otherS (w.heap.size + 1) w.heap.size N f p3 hp3 u4 RD.out).mono ?_
        rintro e _ ⟨rfl, rfl⟩
        clear W3 hp3 XS2 RV2 RD
        have g0 := X0.out.c0
        have g1 := X0.out.c1
        have g2 := X0.out.c2
        have g3 := X0.out.fr 0
        have g4 := X0.out.fr 1
        have g5 := X0.out.fr 2
        go_wp2
        have FB : Box3 (((u4.setCell ⟨w.heap.size, 0, none⟩ (.int .i64 0)).setCell ⟨w.heap.size, 1, none⟩ (.slice none 0 0)).setCell ⟨w.heap.size, 2, none⟩ (.string ⟨#[]⟩)) w.heap.size 25 (.int .i64 0) (.slice none 0 0) (.string ⟨#[]⟩) := ((X0.out.set0 _).set1 _).set2 _
        have FA : Below w.heap.size w (((u4.setCell ⟨w.heap.size, 0, none⟩ (.int .i64 0)).setCell ⟨w.heap.size, 1, none⟩ (.slice none 0 0)).setCell ⟨w.heap.size, 2, none⟩ (.string ⟨#[]⟩)) := ((AB.out.setCell (by simp) _).setCell (by simp) _).setCell (by simp) _
        exact ret_cell2 (b := w.heap.size) Tryz.results7 rfl rfl FB.loadSup ⟨.inr ⟨HRD.out, rfl⟩, FA⟩
end Go.Proofs.YtkmakpbphdjbcaaGreatDoor
