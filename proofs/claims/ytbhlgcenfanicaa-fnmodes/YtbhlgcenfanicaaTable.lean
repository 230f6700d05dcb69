/-
  Contracts of the model's tables of substitutes (l01Double, l01Table, l01Back, UnsubByte): each makes a new row that holds the substitutes, or those whose substitutes they are; what was there stays.
-/
import Derived.Test.YtbhlgcenfanicaaGfPow
import Derived.Deep.OwnRows
import Derived.Deep.RegionHeld3
namespace Go.Proofs.Ytbhlgcenfanicaa
open Go.ChangeShapes Go.WideShapes Go.ChangeAt Go.RowKit

theorem Try.info3 : (Try.prog.info? 3).map (fun i => (i.zero, i.size, i.bytes)) = some (some (.int .i64 0), 1, 8) := by kernel_rfl
theorem makeInts (n : Nat) (hn : n ≤ 100000) (w : World) : (Instr.makeSlice 59 (.int .i64 (n : Int)) (.int .i64 (n : Int))).run Try.prog w = .ok (.slice (some ⟨w.heap.size, 0, none⟩) n n) (w.alloc (.cells (madeCells #[.int .i64 0] n) 3)) :=
  run_make_row' 59 3 (.int .i64 0) 8 Try.underlying59 Try.info3 rfl .i64 .i64 n (by omega) (by omega) w
theorem make255 (w : World) : (Instr.makeSlice 59 (.int .i64 255) (.int .i64 255)).run Try.prog w = .ok (.slice (some ⟨w.heap.size, 0, none⟩) 255 255) (w.alloc (.cells (madeCells #[.int .i64 0] 255) 3)) := makeInts 255 (by omega) w
theorem make256 (w : World) : (Instr.makeSlice 59 (.int .i64 256) (.int .i64 256)).run Try.prog w = .ok (.slice (some ⟨w.heap.size, 0, none⟩) 256 256) (w.alloc (.cells (madeCells #[.int .i64 0] 256) 3)) := makeInts 256 (by omega) w

/-- spec.l01Double -/
theorem l01Double_any (a : Nat) (h1 : a < 256) (w : World) :
    Calls Try.prog 62 #[.int .i64 a] w fun e w' => e = .returned (.int .i64 (Gf.dbl a : Nat)) ∧ w' = w := by
  by_cases h : (255 : Int) < a * 2
  · have E : Hid (bits BinOp.xor IntKind.i64 ((a : Int) * 2) 283 = ((Gf.dbl a : Nat) : Int)) := dbl_yes a h1 h
    go_enter Try.func62, Try.ntmps62
    go_wp2
    go_ret
    exact ⟨ret_int E.out, rfl⟩
  · have E : Hid ((a : Int) * 2 = ((Gf.dbl a : Nat) : Int)) := dbl_no a (by omega)
    go_enter Try.func62, Try.ntmps62
    go_wp2
    go_ret
    exact ⟨ret_int E.out, rfl⟩
theorem val_eq {k : IntKind} {a b : Nat} (h : a = b) : Value.int k (a : Int) = .int k (b : Int) := by rw [h]
set_option maxRecDepth 100000 in
set_option maxHeartbeats 1000000 in
/-- spec.l01Table -/
theorem table_any (w : World) :
    Calls Try.prog 41 #[] w fun e w' => (∃ b, w.heap.size ≤ b ∧ e = .returned (.slice (some ⟨b, 0, none⟩) 256 256) ∧ w'.rowIs b 3 256 (fun j => .int .i64 (Gf.sub j : Nat))) ∧ Below w.heap.size w w' := by
  have m1 := make255
  have m2 := make256
  go_enter Try.func41, Try.ntmps41
  go_wp2
  go_loopw [2, 3] (fun x i wr => ∃ k : Nat, k ≤ 255 ∧ i = .int .i64 k ∧ x = .int .i64 (Gf.pw k : Nat) ∧ wr.rowIs w.heap.size 3 255 (fun j => .int .i64 ((if j < k then Gf.pw j else 0 : Nat) : Int)) ∧ Below w.heap.size w wr ∧ wr.heap.size = w.heap.size + 1) (fun _ i _ => 255 - (intOf i).toNat)
  case atStart =>
    refine ⟨0, by omega, rfl, rfl, ?_, (Below.refl _ _).alloc (Nat.le_refl _) _, by simp⟩
    exact (World.rowIs_made w (.int .i64 0) 255 3).congr (fun j hj => by simp)
  case round =>
    obtain ⟨k, hk, rfl, rfl, hrow, hb, hsz⟩ := hrel
    have HR : Hid (wr.rowIs w.heap.size 3 255 (fun j => .int .i64 ((if j < k then Gf.pw j else 0 : Nat) : Int))) := hrow
    have HB : Hid (Below w.heap.size w wr) := hb
    have HS : Hid (wr.heap.size = w.heap.size + 1) := hsz
    have hp := Gf.pw_lt k
    have E : Hid (bits BinOp.xor IntKind.i64 (Gf.pw k : Int) (Gf.dbl (Gf.pw k) : Int) = ((Gf.pw (k + 1) : Nat) : Int)) := i64_xor_nat _ _ (by omega) (by have := Gf.dbl_lt _ hp; omega)
    by_cases hlt : k < 255
    · have c1 := hrow.cell hlt
      have f1 := hrow.frozen k
      clear hrow hb hsz
      go_wp2_with (go_at_call 62; refine (l01Double_any _ hp _).mono ?_; rintro e w' ⟨rfl, rfl⟩)
      go_roundw
      case rel =>
        refine ⟨k + 1, by omega, by go_num, val_int E.out, ?_, HB.out.setCell (by exact Nat.le_refl _) _, by simpa using HS.out⟩
        exact (HR.out.set k _).congr (fun j hj => by
          by_cases e : j = k
          · subst e; simp
          · simp only [if_neg e]; exact val_eq (by by_cases g : j < k <;> simp [g] <;> omega))
      case measure => simp [intOf]; omega
    · have hrow' : wr.rowIs w.heap.size 3 255 (fun j => .int .i64 (Gf.pw j : Nat)) := hrow.congr (fun j hj => val_eq (by rw [if_pos (by omega)]))
      have HR' : Hid (wr.rowIs w.heap.size 3 255 (fun j => .int .i64 (Gf.pw j : Nat))) := hrow'
      clear hrow hrow' HR hb E hp
      have K1 : Hid ((wr.alloc (Obj.cells ((madeCells #[.int .i64 0] 256).setIfInBounds 0 (.int .i64 99)) 3)).rowIs (w.heap.size + 1) 3 256 (fun j => .int .i64 (Gf.tabTo 0 j : Nat))) := by
        have h := World.rowIs_alloc wr ((madeCells #[.int .i64 0] 256).setIfInBounds 0 (.int .i64 99)) 3 (fun j => .int .i64 (Gf.tabTo 0 j : Nat)) (fun j hj => by
          have hj' : j < 256 := by simpa [size_madeCells] using hj
          rw [Array.getElem?_setIfInBounds]
          by_cases e : j = 0
          · subst e; simp [size_madeCells, Gf.tabTo]
          · rw [if_neg (fun h => e h.symm)]
            simp [madeCells, hj', Nat.mod_one, Gf.tabTo, e])
        rw [HS.out] at h
        exact (by simpa [size_madeCells] using h : World.rowIs _ _ _ _ _)
      have K2 : Hid ((wr.alloc (Obj.cells ((madeCells #[.int .i64 0] 256).setIfInBounds 0 (.int .i64 99)) 3)).rowIs w.heap.size 3 255 (fun j => .int .i64 (Gf.pw j : Nat))) := HR'.out.alloc _
      have K3 : Hid (Below w.heap.size w (wr.alloc (Obj.cells ((madeCells #[.int .i64 0] 256).setIfInBounds 0 (.int .i64 99)) 3))) := HB.out.alloc (by rw [HS.out]; omega) _
      have mc0 : (madeCells #[Value.int IntKind.i64 0] 256)[0]? = some (.int .i64 0) := by simp [madeCells]
      go_wp2
      clear mc0
      generalize wr.alloc (Obj.cells ((madeCells #[.int .i64 0] 256).setIfInBounds 0 (.int .i64 99)) 3) = wz at *
      generalize Gf.pw k = V
      generalize (k : Int) = kk
      clear HR' HB HS hsz wr
      go_loopw [5] (fun i wq => ∃ k : Nat, k ≤ 255 ∧ i = .int .i64 k ∧ wq.rowIs w.heap.size 3 255 (fun j => .int .i64 (Gf.pw j : Nat)) ∧ wq.rowIs (w.heap.size + 1) 3 256 (fun j => .int .i64 (Gf.tabTo k j : Nat)) ∧ Below w.heap.size w wq) (fun i _ => 255 - (intOf i).toNat)
      case atStart => exact ⟨0, by omega, rfl, K2.out, K1.out, K3.out⟩
      case round =>
        obtain ⟨k, hk, rfl, hrow1, hrow2, hb⟩ := hrel
        have H1 : Hid (wr.rowIs w.heap.size 3 255 (fun j => .int .i64 (Gf.pw j : Nat))) := hrow1
        have H2 : Hid (wr.rowIs (w.heap.size + 1) 3 256 (fun j => .int .i64 (Gf.tabTo k j : Nat))) := hrow2
        have HB : Hid (Below w.heap.size w wr) := hb
        by_cases hlt : k < 255
        · have hp := Gf.pw_lt k
          have hq := Gf.pw_lt ((255 - k) % 255)
          have c1 := hrow1.cell hlt
          have hm : (255 - k) % 255 < 255 := Nat.mod_lt _ (by omega)
          have c2 := hrow1.cell hm
          have c3 := hrow2.cell hp
          have f3 := hrow2.frozen (Gf.pw k)
          have ew : IntKind.i64.wrap (255 - (k : Int)) = ((255 - k : Nat) : Int) := by
            rw [show 255 - (k : Int) = ((255 - k : Nat) : Int) from by omega]
            exact IntWalk.i64_in _ ⟨by omega, by omega⟩
          have et : ((255 - k : Nat) : Int).tmod 255 = (((255 - k) % 255 : Nat) : Int) := (Int.ofNat_tmod (255 - k) 255).symm
          have hp' : (Gf.pw k : Int) < 256 := by omega
          have hm' : (((255 - k) % 255 : Nat) : Int) < 255 := by omega
          have E : Hid (∀ j, Gf.tabTo (k + 1) j = if j = Gf.pw k then Gf.spread (Gf.pw ((255 - k) % 255)) else Gf.tabTo k j) := fun j => rfl
          clear hrow1 hrow2 hb K1 K2 K3
          generalize (255 - k) % 255 = M at *
          generalize 255 - k = N at *
          generalize Gf.pw k = P at *
          generalize Gf.pw M = R at *
          go_wp2
          go_region_held3 (fun w' => w'.cell? ⟨w.heap.size, k, none⟩ = some (.int .i64 P) ∧ w'.cell? ⟨w.heap.size, M, none⟩ = some (.int .i64 R) ∧ w'.frozen? ⟨w.heap.size + 1, P, none⟩ = false) (simp [go_sem, *]) ((go_at_call 63; refine (affine_any R hq _).mono ?_; rintro e w' ⟨rfl, rfl⟩))
          go_wp2
          go_roundw
          case rel =>
            refine ⟨k + 1, by omega, by go_num, (H1.out.setOther (by simp) _).drew, ?_, (HB.out.setCell (by simp) _).drew⟩
            exact ((H2.out.set P _).drew).congr (fun j hj => by
              rw [E.out j]
              by_cases e : j = P
              · simp [e]
              · simp [e])
          case measure => simp [intOf]; omega
        · obtain rfl : k = 255 := by omega
          clear hrow1 hrow2 hb K1 K2 K3
          go_wp2
          go_ret
          exact ⟨⟨w.heap.size + 1, by omega, rfl, H2.out.congr (fun j hj => val_eq (Gf.tab_last j hj))⟩, HB.out⟩
/-- A table that a slice leads to: the row that it leads to. -/
theorem below_row {B b : Nat} {w w' : World} {t : TypeId} {n : Nat} {f : Nat → Value} (h : w.rowIs b t n f) (hb : Below B w w') (hB : b < B) : w'.rowIs b t n f := h.of_block (hb.block b hB)
set_option maxRecDepth 100000 in
set_option maxHeartbeats 1000000 in
/-- spec.l01Back -/
theorem back_any (b : Nat) (w : World) (hr : w.rowIs b 3 256 (fun j => .int .i64 (Gf.sub j : Nat))) :
    Calls Try.prog 65 #[.slice (some ⟨b, 0, none⟩) 256 256] w fun e w' => (∃ c, w.heap.size ≤ c ∧ e = .returned (.slice (some ⟨c, 0, none⟩) 256 256) ∧ w'.rowIs c 3 256 (fun j => .int .i64 (Gf.unsub j : Nat))) ∧ Below w.heap.size w w' := by
  have m2 := make256
  have hlt0 := hr.lt
  have HR : Hid (w.rowIs b 3 256 (fun j => .int .i64 (Gf.sub j : Nat))) := hr
  clear hr
  go_enter Try.func65, Try.ntmps65
  go_wp2
  go_loopw [4] (fun i wr => ∃ k : Nat, k ≤ 256 ∧ i = .int .i64 k ∧ wr.rowIs w.heap.size 3 256 (fun j => .int .i64 (Gf.backTo k j : Nat)) ∧ Below w.heap.size w wr) (fun i _ => 256 - (intOf i).toNat)
  case atStart =>
    refine ⟨0, by omega, rfl, ?_, (Below.refl _ _).alloc (Nat.le_refl _) _⟩
    exact (World.rowIs_made w (.int .i64 0) 256 3).congr (fun j hj => rfl)
  case round =>
    obtain ⟨k, hk, rfl, hrow, hb⟩ := hrel
    have H2 : Hid (wr.rowIs w.heap.size 3 256 (fun j => .int .i64 (Gf.backTo k j : Nat))) := hrow
    have HB : Hid (Below w.heap.size w wr) := hb
    by_cases hlt : k < 256
    · have hs := Gf.sub_lt k hlt
      have c1 := (below_row HR.out hb hlt0).cell hlt
      have c2 := hrow.cell hs
      have f2 := hrow.frozen (Gf.sub k)
      have E : Hid (∀ j, Gf.backTo (k + 1) j = if j = Gf.sub k then k else Gf.backTo k j) := fun j => rfl
      clear hrow hb
      generalize Gf.sub k = P at *
      go_wp2
      go_roundw
      case rel =>
        refine ⟨k + 1, by omega, by go_num, ?_, HB.out.setCell (by simp) _⟩
        exact (H2.out.set P _).congr (fun j hj => by
          rw [E.out j]
          by_cases e : j = P
          · simp [e]
          · simp [e])
      case measure => simp [intOf]; omega
    · obtain rfl : k = 256 := by omega
      clear hrow hb
      go_wp2
      go_ret
      exact ⟨⟨w.heap.size, by omega, rfl, H2.out.congr (fun j hj => val_eq (Gf.back_last j hj))⟩, HB.out⟩
end Go.Proofs.Ytbhlgcenfanicaa
