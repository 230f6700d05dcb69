/-
  Towards DiskRun of the program: a new disk in rows of the call's own.
-/
import Derived.Test.YtgdfhgepbamhmaaDoorNewD
import Derived.Test.YtgdfhgepbamhmaaDoorDiskCp
namespace Go.Proofs.YtgdfhgepbamhmaaDoor
open Go.ChangeShapes Go.WideShapes Go.ChangeAt Go.RowKit
theorem TxR.made (w : World) (B n : Nat) (hB : B ≤ w.heap.size) (hn : n ≤ 1048576) : TxR (w.alloc (.cells (madeCells #[.string ⟨#[]⟩] n) 9)) B (.slice (some ⟨w.heap.size, 0, none⟩) n n) n (fun _ => ⟨#[]⟩) := by
  have hm : madeCells #[Value.string ⟨#[]⟩] n = Array.replicate n (.string ⟨#[]⟩) := by
    apply Array.ext
    · simp [madeCells]
    · intro i h1 h2
      simp [madeCells, Nat.mod_one]
  refine ⟨by simp, .inr ⟨w.heap.size, n, madeCells #[.string ⟨#[]⟩] n, rfl, hB, Deep.blk_alloc_new _ _, Nat.le_refl _, by unfold maxLen; omega, by rw [hm]; simp, ?_⟩⟩
  rw [hm]
  apply List.ext_getElem
  · simp
  · intro i h1 h2
    simp
set_option maxRecDepth 100000 in
set_option maxHeartbeats 1000000 in
theorem implNew_own (x : Int) (x0 : 1 ≤ x) (x1 : x ≤ 64) (w : World) :
    Calls Tryd.prog 21 #[.int .i64 x] w fun e w' => (∃ g, w.heap.size ≤ g ∧ e = .returned (.tuple #[.agg #[.slice (some ⟨g, 0, none⟩) x.toNat x.toNat, .slice none 0 0, .slice none 0 0], .int .i64 0]) ∧ Rows3 w' w.heap.size (newD x.toNat) (.slice (some ⟨g, 0, none⟩) x.toNat x.toNat) (.slice none 0 0) (.slice none 0 0)) ∧ Below w.heap.size w w' := by
  obtain ⟨n, rfl⟩ := Int.eq_ofNat_of_zero_le (a := x) (by omega)
  rw [Int.toNat_natCast]
  have y0 : ¬ (n : Int) < 1 := by omega
  have y1 : ¬ (64 : Int) < (n : Int) := by omega
  have hmk := mkStrsD n (by omega)
  have hn : n ≤ 64 := by omega
  clear x0 x1
  go_enter Tryd.func21, Tryd.ntmps21
  go_wp2
  have RR : TxR (((w.alloc (.cells #[.slice (some ⟨w.heap.size + 1, 0, none⟩) n n, .slice none 0 0, .slice none 0 0] 27)).alloc (.cells (madeCells #[.string ⟨#[]⟩] n) 9))) w.heap.size (.slice (some ⟨w.heap.size + 1, 0, none⟩) n n) n (fun _ => ⟨#[]⟩) := by
    have := TxR.made (w.alloc (.cells #[.slice (some ⟨w.heap.size + 1, 0, none⟩) n n, .slice none 0 0, .slice none 0 0] 27)) w.heap.size n (by simp) (by omega)
    simpa using this
  exact ret_cell2 (b := w.heap.size) (v := .agg #[.slice (some ⟨w.heap.size + 1, 0, none⟩) n n, .slice none 0 0, .slice none 0 0]) Tryd.results21 rfl rfl (by go_simp) ⟨⟨w.heap.size + 1, by omega, rfl, RR, PnR.nil _ _ _ _, TxR.nil _ _ _, (fun _ _ e => by cases e), (fun _ _ e => by cases e), (fun _ e => by cases e)⟩, ((Below.refl w.heap.size w).alloc (Nat.le_refl _) _).alloc (by simp) _⟩
end Go.Proofs.YtgdfhgepbamhmaaDoor
