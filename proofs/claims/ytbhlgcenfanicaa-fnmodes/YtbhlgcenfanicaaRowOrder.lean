/-
  The contract of impl.rowOrder: it hands back the table, and what was there stays.
-/
import Derived.Test.YtbhlgcenfanicaaOrder
import Derived.Test.YtbhlgcenfanicaaBytes
namespace Go.Proofs.Ytbhlgcenfanicaa
open Go.ChangeShapes Go.WideShapes Go.ChangeAt Go.RowKit
theorem range_below {w w' : World} {b o : Nat} {cs : List Value} (h : w.rangeAt b o cs) (hb : Below w.heap.size w w') : w'.rangeAt b o cs := fun j v hv => by
  have c := h j v hv
  have hlt : b < w.heap.size := by
    rcases Nat.lt_or_ge b w.heap.size with g | g
    · exact g
    · simp [World.cell?, Array.getElem?_eq_none g] at c
  rw [hb.cell (p := ⟨b, o + j, none⟩) hlt]; exact c
theorem there_below {w w' : World} {b o n : Nat} (h : w.there b o n) (hlt : b < w.heap.size) (hb : Below w.heap.size w w') : w'.there b o n := fun j hj => by
  rw [hb.cell (p := ⟨b, o + j, none⟩) hlt, hb.frozen (p := ⟨b, o + j, none⟩) hlt]; exact h j hj
theorem there_alloc (w : World) (A : Array Value) (t : TypeId) : (w.alloc (.cells A t)).there w.heap.size 0 A.size := fun j hj => by
  have h := World.rowIs_alloc w A t (fun i => A.getD i undef) (fun i hi => by simp [hi])
  rw [Nat.zero_add, h.cell hj, h.frozen j]
  exact ⟨rfl, rfl⟩
def zI16 : Array Value := #[.int .i64 0, .int .i64 0, .int .i64 0, .int .i64 0, .int .i64 0, .int .i64 0, .int .i64 0, .int .i64 0, .int .i64 0, .int .i64 0, .int .i64 0, .int .i64 0, .int .i64 0, .int .i64 0, .int .i64 0, .int .i64 0]
theorem ordA_size : ordA.size = 16 := rfl
theorem ordA_one : ordA.all (·.oneCell') = true := by kernel_rfl
set_option maxRecDepth 100000 in
set_option maxHeartbeats 4000000 in
/-- impl.rowOrder -/
theorem rowOrder_any (w : World) : Calls Try.prog 52 #[] w fun e w' => e = .returned (.agg ordA) ∧ Below w.heap.size w w' := by
  have T := turnsLeft_any ((w.alloc (.cells zI16 42)).alloc (.cells ordA 42))
  have Z0 : ((w.alloc (.cells zI16 42)).alloc (.cells ordA 42)).there w.heap.size 0 16 := there_below (there_alloc w zI16 42) (by simp) ((Below.refl _ _).alloc (Nat.le_refl _) _)
  have R0 : ((w.alloc (.cells zI16 42)).alloc (.cells ordA 42)).rangeAt (w.heap.size + 1) 0 ordA.toList := by
    have := range_alloc (w.alloc (.cells zI16 42)) ordA 42
    simpa using this
  have B0 : Below w.heap.size w ((w.alloc (.cells zI16 42)).alloc (.cells ordA 42)) := ((Below.refl _ _).alloc (Nat.le_refl _) _).alloc (by simp) _
  have C : Hid (Calls Try.prog 78 #[.agg ordA] ((w.alloc (.cells zI16 42)).alloc (.cells ordA 42)) fun e w' => e = .returned (.bool true) ∧ (w'.there w.heap.size 0 16 ∧ w'.rangeAt (w.heap.size + 1) 0 ordA.toList ∧ Below w.heap.size w w')) :=
    T.mono fun e w' ⟨he, hb⟩ => ⟨he, there_below Z0 (by simp; omega) hb, range_below R0 hb, B0.trans (hb.mono (by simp; omega))⟩
  clear T Z0 R0 B0
  go_enter Try.func52, Try.ntmps52
  go_wp2_with fail
  have C' := C.out
  unfold zI16 ordA at C'
  refine Calls.mono C' ?_
  clear C'
  rw [← ordA.eq_1]
  rintro e w1 ⟨rfl, hz, hr, hb⟩
  have HZ : Hid (w1.there w.heap.size 0 16) := hz
  have HR : Hid (w1.rangeAt (w.heap.size + 1) 0 ordA.toList) := hr
  have HB : Hid (Below w.heap.size w w1) := hb
  clear hz hr hb C
  have hA1 : Hid ((Try.prog.info? 42).map (·.size) = some ordA.toList.length) := Try.sizeO
  have hA2 : Hid (ordA.all (·.oneCell') = true) := ordA_one
  have hA3 : Hid (ordA.size = 16) := ordA_size
  generalize hE : ordA = A at *
  have HE : Hid (ordA = A) := hE
  clear hE
  go_wp2_with (first
    | (refine wpList_load_mid rfl 42 (.tmp 1) rfl (w.heap.size + 1) 0 rfl A.toList _ HR.out Try.underlying42 rfl hA1.out ?_)
    | (refine wpList_store_mid rfl 42 (.tmp 0) (.tmp 6) rfl w.heap.size 0 A rfl rfl (by rw [hA3.out]; exact HZ.out) (by rw [hA3.out]; exact Try.sizeO) hA2.out ?_))
  have hL : (w1.setCells w.heap.size 0 A.toList).rangeAt w.heap.size 0 A.toList := World.rangeAt_setCells_same w1 w.heap.size 0 A.toList (by rw [Array.length_toList, hA3.out]; exact HZ.out)
  have Lo : (loadVar 42 ⟨w.heap.size, 0, none⟩).run Try.prog (w1.setCells w.heap.size 0 A.toList) = .ok (.agg A) (w1.setCells w.heap.size 0 A.toList) := run_loadVar_mid _ w.heap.size 0 42 A.toList _ hL Try.underlying42 rfl hA1.out
  have Bo : Below w.heap.size w (w1.setCells w.heap.size 0 A.toList) := below_setCells (Nat.le_refl _) _ _ _ HB.out
  rw [HE.out]
  exact bodyPost_ret (v := .agg A) (results_cell_one (b := w.heap.size) (o := 0) Try.results52 _ _ _ rfl Lo) rfl ⟨rfl, Bo⟩
end Go.Proofs.Ytbhlgcenfanicaa
