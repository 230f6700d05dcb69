/-
  Texts of the proof, joined: SealMem.
-/
import Derived.Test.YtkmakpbphdjbcaaGreatDoorQ45
namespace Go.Proofs.YtkmakpbphdjbcaaGreatDoor
open Go.ChangeShapes Go.WideShapes Go.ChangeAt Go.RowKit
def slA (G : Nat → Nat) (s : ByteArray) (x : Value) : Array Value := ((List.range 66).map (slV G s x)).toArray
theorem slA_size (G : Nat → Nat) (s : ByteArray) (x : Value) : (slA G s x).size = 66 := by simp [slA]
theorem slA_at {G : Nat → Nat} {s : ByteArray} {x : Value} {k : Nat} (h : k < 66) : (slA G s x)[k]? = some (slV G s x k) := by simp [slA, h]
theorem slA_one (G : Nat → Nat) (s : ByteArray) (a : Option Addr) (m c : Nat) : (slA G s (.slice a m c)).all (·.oneCell') = true := all_oneCell_toArray (fun v hv => by
  obtain ⟨i, hi, rfl⟩ := List.mem_map.1 hv
  unfold slV
  split
  · rfl
  · split <;> rfl)
theorem Tryz.infoSl : (Tryz.prog.info? 88).map (fun i => (i.zero.map (fun z => (z.cells.size, match z with | .agg _ => true | _ => false)), i.size)) = some (some (66, true), 66) := by kernel_rfl
theorem Tryz.sizeSl : (Tryz.prog.info? 88).map (·.size) = some 66 := by
  have h := Tryz.infoSl
  cases hq : Tryz.prog.info? 88 with
  | none => simp [hq] at h
  | some i => simp [hq] at h ⊢; exact h.2
theorem Tryz.placesSl : (match Tryz.prog.underlying 88 with | some (.struct fs) => fs.toList.mapM (fun f => (Tryz.prog.info? f.type).map fun i => (f.offset, i.size)) | _ => none) = some [(0, 64), (64, 1), (65, 1)] := by kernel_rfl
theorem Tryz.zeroSl : ∃ Z : Array Value, (∀ w, (zeroValue 88).run Tryz.prog w = .ok (.agg Z) w) ∧ Z.size = 66 ∧ (∃ it, Tryz.prog.info? 88 = some it ∧ it.zero = some (.agg Z)) := by
  have h := Tryz.infoSl
  cases hq : Tryz.prog.info? 88 with
  | none => simp [hq] at h
  | some i =>
    simp only [hq, Option.map_some, Option.some.injEq, Prod.mk.injEq] at h
    cases hz : i.zero with
    | none => simp [hz] at h
    | some z =>
      simp only [hz, Option.map_some, Option.some.injEq, Prod.mk.injEq] at h
      cases z with
      | agg Z => exact ⟨Z, fun w => by simp [zeroValue, typeInfo, hq, hz], h.1.1, i, rfl, hz⟩
      | _ => simp at h
theorem structS : ∃ fs, Tryz.prog.underlying 88 = some (.struct fs) ∧ fs.toList.mapM (fun f => (Tryz.prog.info? f.type).map fun i => (f.offset, i.size)) = some [(0, 64), (64, 1), (65, 1)] := by
  have hp := Tryz.placesSl
  generalize Tryz.prog.underlying 88 = u at hp
  match u, hp with
  | some (.struct fs), hp => exact ⟨fs, rfl, hp⟩
theorem laid_sealer (G : Nat → Nat) (s : ByteArray) (x : Value) (Z : Array Value) (hs : Z.size = 66) : laid 65 #[x] (laid 64 #[.string s] (laid 0 (bA 64 G) Z)) = slA G s x := by
  apply Array.ext_getElem?
  intro i
  rw [laid_at, laid_at, laid_at]
  simp only [laid_size, bA_size, hs, show (#[x] : Array Value).size = 1 from rfl, show (#[Value.string s] : Array Value).size = 1 from rfl]
  by_cases hi : i < 66
  · rw [slA_at hi]
    unfold slV
    by_cases h2 : 65 ≤ i
    · obtain rfl : i = 65 := by omega
      rw [if_pos (by omega), if_neg (by omega), if_neg (by omega)]
      rfl
    · rw [if_neg (by omega)]
      by_cases h1 : 64 ≤ i
      · obtain rfl : i = 64 := by omega
        rw [if_pos (by omega), if_neg (by omega), if_pos rfl]
        rfl
      · rw [if_neg (by omega), if_pos (by omega), if_pos (by omega), bA_at (by omega), Nat.sub_zero]
  · rw [if_neg (by omega), if_neg (by omega), if_neg (by omega)]
    rw [Array.getElem?_eq_none (by omega), Array.getElem?_eq_none (by rw [slA_size]; omega)]
theorem built_sealer (G : Nat → Nat) (s : ByteArray) (a : Option Addr) (m c : Nat) : Tryz.prog.built 88 [(0, .agg (bA 64 G)), (1, .string s), (2, .slice a m c)] = some (slA G s (.slice a m c)) := by
  obtain ⟨Z, -, hs, it, hi, hz⟩ := Tryz.zeroSl
  obtain ⟨fs, hu, hp⟩ := structS
  rw [built_struct hi hz hu hp]
  rw [fill_cons (off := 0) (size := 64) _ _ _ (.agg (bA 64 G)) _ rfl (bA_size _ _) (by show 0 + 64 ≤ Z.size; omega)]
  rw [fill_cons (off := 64) (size := 1) _ _ _ _ _ rfl rfl (by rw [laid_size]; show 64 + 1 ≤ Z.size; omega)]
  rw [fill_cons (off := 65) (size := 1) _ _ _ _ _ rfl rfl (by rw [laid_size, laid_size]; show 65 + 1 ≤ Z.size; omega)]
  rw [cells_agg, cells_agg, show (Value.string s).cells = #[.string s] from rfl, show (Value.slice a m c).cells = #[.slice a m c] from rfl, laid_sealer G s _ Z hs]
  rfl
theorem wpList_buildS {P : Program} {ops : Array Oper} {rest : List Oper} {o : Oper} {a : Act} {w : World} {Q : Exit → Act → World → Prop} (hg : o.guard = none) (t : TypeId) (parts : Array (Nat × Operand)) (ho : o.op = .build t parts) (vals : List (Nat × Value)) (hv : (parts.map fun (i, x) => (i, a.eval x)).toList = vals)
    (cells : Array Value) (hf : P.built t vals = some cells) (h : wpList P ops Q rest (a.put o.dst (.agg cells)) w) : wpList P ops Q (o :: rest) a w := by
  refine wpList_build hg t parts ho ?_ ?_
  · rw [hv, hf]; rfl
  · rw [hv, hf]; exact h
theorem sealAt_stored (w : World) (Z : Array Value) (hZ : Z.size = 66) (G : Nat → Nat) (s : ByteArray) (x : Value) : SealAt ((w.alloc (.cells Z 88)).setCells w.heap.size 0 (slA G s x).toList) w.heap.size G s x := by
  have h0 : (w.alloc (.cells Z 88)).rowIs w.heap.size 88 66 (fun i => Z.getD i undef) := by
    rw [← hZ]
    exact World.rowIs_alloc w Z 88 _ (fun i hi => by simp [Array.getD, hi])
  refine (rowIs_setCells (slA G s x).toList 0 _ _ h0).congr (fun i hi => ?_)
  have hl : (slA G s x).toList.length = 66 := by rw [Array.length_toList]; exact slA_size _ _ _
  rw [hl, if_pos (by omega), Nat.sub_zero, List.getD_eq_getElem?_getD, Array.getElem?_toList, slA_at hi]
  rfl
theorem sfault_ok (k s : ByteArray) (x y z : Nat) (hk : k.size = 32) (hs : s.size = 12) (hx : x ≤ 65536) (hy : y ≤ z) (w : World) :
    Calls Tryz.prog 53 #[.string k, .string s, .int .i64 (x : Int), .int .i64 (y : Int), .int .i64 (z : Int)] w fun e w' => e = .returned (.int .i64 0) ∧ w = w' := by
  have e1 : ¬ (65536 : Int) < k.size := by omega
  have e2 : ¬ (65536 : Int) < s.size := by omega
  have e3 : ¬ (65536 : Int) < (x : Int) := by omega
  have e4 : ¬ (z : Int) < (y : Int) := by omega
  have e5 : ((k.size : Int) != 32) = false := by rw [hk]; rfl
  have e6 : ((s.size : Int) != 12) = false := by rw [hs]; rfl
  clear hk hs
  go_enter Tryz.func53, Tryz.ntmps53
  go_wp2
  go_ret
  exact ⟨rfl, rfl⟩
end Go.Proofs.YtkmakpbphdjbcaaGreatDoor
