/-
  Texts of the proof, joined: KMath, StateOf, StateOf2, Slices2, Pad, IntS, Mix, EncMath, Order, RowOrder.
-/
import Derived.Test.YtbecnaabmlkjjabGreatDoorP17
import Derived.Laws.BytesArg
import Derived.Test.YtbecnaabmlkjjabGreatDoorP14
import Derived.Laws.IdiomCopy
import Derived.Deep.Cut
import Derived.Test.YtbecnaabmlkjjabGreatDoorP05
import Derived.Deep.CutRange
import Derived.Deep.DeepCutAuto
import Derived.Deep.RegionHeld3
import Derived.Test.YtbecnaabmlkjjabGreatDoorRows
import Derived.WalkKit
import Derived.ProofKit
import Derived.OpenShut
import Derived.Below
import Derived.WalkSmall
import Derived.Deep.QuietTactic
import Derived.BigQuiet
import Derived.Deep.OwnRows
import Derived.Test.YtbecnaabmlkjjabGreatDoorP13
import Derived.Handy
import Derived.Test.YtbecnaabmlkjjabGreatDoorP01
import Derived.Laws.ComplexArith
import Derived.Deep.RegionWith
import Derived.Deep.MidRow
namespace Go.Proofs.YtbecnaabmlkjjabGreatDoor
open Go.ChangeShapes Go.WideShapes Go.ChangeAt Go.RowKit
namespace Gf
theorem kt_congr {n : Nat} {L L' : Nat → Nat} {i r : Nat} (hr : r < 4) (h : ∀ r, r < 4 → L r = L' r) : kt n L i r = kt n L' i r := by
  unfold kt
  rw [h 1 (by omega), h ((r + 1) % 4) (Nat.mod_lt _ (by omega)), h r hr]
theorem ws_stay {key : Nat → Nat} {n : Nat} (t : Nat) : ∀ d j, j < (n + t) * 4 → ws key n (t + d) j = ws key n t j := by
  intro d
  induction d with
  | zero => intro j _; rfl
  | succ d ih =>
    intro j hj
    rw [← Nat.add_assoc, ws_old _ _ (Or.inl (by omega)), ih j hj]
theorem ws_key {key : Nat → Nat} {n : Nat} (t j : Nat) (hj : j < n * 4) : ws key n t j = key j := by
  have := ws_stay (key := key) (n := n) 0 t j (by omega)
  rw [Nat.zero_add] at this
  rw [this]
  show (if j < n * 4 then key j else 0) = key j
  rw [if_pos hj]
theorem ws_rec {key : Nat → Nat} {n M : Nat} (hn : 1 ≤ n) (I r : Nat) (hI : n ≤ I) (hM : I < n + M) (hr : r < 4) :
    ws key n M (I * 4 + r) = ws key n M ((I - n) * 4 + r) ^^^ kt n (fun r => ws key n M ((I - 1) * 4 + r)) I r := by
  obtain ⟨t, rfl⟩ : ∃ t, I = n + t := ⟨I - n, by omega⟩
  obtain ⟨d, rfl⟩ : ∃ d, M = t + 1 + d := ⟨M - (t + 1), by omega⟩
  rw [ws_stay (t + 1) d _ (by omega), ws_new t r hr]
  have e1 : ws key n (t + 1 + d) ((n + t - n) * 4 + r) = ws key n t (t * 4 + r) := by
    rw [show n + t - n = t from by omega, show t + 1 + d = t + (1 + d) from by omega, ws_stay t (1 + d) _ (by omega)]
  rw [e1]
  congr 1
  refine kt_congr hr (fun r hr => ?_)
  show _ = ws key n (t + 1 + d) ((n + t - 1) * 4 + r)
  rw [show t + 1 + d = t + (1 + d) from by omega, ws_stay t (1 + d) _ (by omega)]
theorem mul_two : ∀ x, x < 256 → mul x 2 = dbl x := by decide +kernel
end Gf
end Go.Proofs.YtbecnaabmlkjjabGreatDoor
namespace Go.Proofs.YtbecnaabmlkjjabGreatDoor
open Go.ChangeShapes Go.WideShapes Go.ChangeAt Go.RowKit
theorem bv_text (s : ByteArray) (n : Nat) (h : s.size = n) : bv n (strB s) = s.data.toList.map (fun b => .int .u8 b.toNat) := by
  apply List.ext_getElem
  · rw [bv_length]; simp [h]
  · intro i h1 h2
    have hi : i < n := by rwa [bv_length] at h1
    have hi' : i < s.size := by omega
    have e := bv_at (n := n) (f := strB s) hi
    rw [List.getElem?_eq_getElem h1] at e
    rw [Option.some.inj e, List.getElem_map, ← ba_get s i hi']
    simp [strB, hi']
end Go.Proofs.YtbecnaabmlkjjabGreatDoor
namespace Go.Proofs.YtbecnaabmlkjjabGreatDoor
open Go.ChangeShapes Go.WideShapes Go.ChangeAt Go.RowKit
theorem run_copy_le {P : Program} (w : World) (dT sT ty elem : TypeId) (b o dLen dCap : Nat) (s : ByteArray) (cs : List Value)
    (hu : P.underlying dT = some (.slice elem)) (hs : (P.info? elem).map (·.size) = some 1) (hn : s.size ≤ dLen) (hcs : cs = s.data.toList.map (fun b => .int .u8 b.toNat))
    (hc : ∀ j, j < cs.length → (w.cell? ⟨b, o + j, none⟩).isSome = true) (hf : ∀ j, j < cs.length → w.frozen? ⟨b, o + j, none⟩ = false) :
    (Builtin.copy_ #[dT, sT] ty #[.slice (some ⟨b, o, none⟩) dLen dCap, .string s]).run P w = .ok (goInt cs.length) (w.setCells b o cs) := by
  have h1 : ∀ v ∈ cs, v.oneCell' = true := fun v hv => by
    rw [hcs] at hv
    obtain ⟨x, _, rfl⟩ := List.mem_map.1 hv
    rfl
  have hst := run_storeCells_cells (P := P) b o cs 0 w (by simpa using hc) (by simpa using hf) h1
  cases hq : P.info? elem with
  | none => simp [hq] at hs
  | some i =>
    have hl : s.data.toList.length = s.size := by simp
    have hcl : cs.length = s.size := by rw [hcs, List.length_map, hl]
    have hm : min s.size dLen = s.size := Nat.min_eq_left hn
    simp [Builtin.copy_, run_underlying hu, Builtin.lenOf, Builtin.firstCells, sizeOf, typeInfo, hq, hm]
    rw [← hcs, List.take_of_length_le (by omega), hst, hcl]
    rfl
set_option maxRecDepth 100000 in
set_option maxHeartbeats 1000000 in
theorem stateOf_le (s : ByteArray) (hs : s.size ≤ 16) (w : World) :
    Calls Tryz.prog 136 #[.string s] w fun e w' => e = .returned (.agg (bA 16 (strB s))) ∧ Below w.heap.size w w' := by
  have Z2 : Hid (Row8 ((w.alloc (.cells z16 159)).alloc (.cells z16 159)) (w.heap.size + 1) 159 16 (fun _ => 0)) := Row8.z16At (by simp) _
  have Z1 : Hid (Row8 ((w.alloc (.cells z16 159)).alloc (.cells z16 159)) w.heap.size 159 16 (fun _ => 0)) := (Row8.z16At rfl _).alloc _
  have B3 : Hid (Below w.heap.size w ((w.alloc (.cells z16 159)).alloc (.cells z16 159))) := ((Below.refl _ _).alloc (Nat.le_refl _) _).alloc (by simp) _
  have sz : (Tryz.prog.info? 5).map (·.size) = some 1 := by kernel_rfl
  have SZ : Hid ((Tryz.prog.info? 5).map (·.size) = some 1) := sz
  clear sz
  unfold z16 at Z2 Z1 B3
  go_enter Tryz.func136, Tryz.ntmps136
  go_upto_region 2 with fail
  generalize (w.alloc (.cells #[.int .u8 0, .int .u8 0, .int .u8 0, .int .u8 0, .int .u8 0, .int .u8 0, .int .u8 0, .int .u8 0, .int .u8 0, .int .u8 0, .int .u8 0, .int .u8 0, .int .u8 0, .int .u8 0, .int .u8 0, .int .u8 0] 159)).alloc (.cells #[.int .u8 0, .int .u8 0, .int .u8 0, .int .u8 0, .int .u8 0, .int .u8 0, .int .u8 0, .int .u8 0, .int .u8 0, .int .u8 0, .int .u8 0, .int .u8 0, .int .u8 0, .int .u8 0, .int .u8 0, .int .u8 0] 159) = wz at *
  have CP : ∀ ty c, (Builtin.copy_ #[88, 9] ty #[.slice (some ⟨w.heap.size + 1, 0, none⟩) 16 c, .string s]).run Tryz.prog wz = .ok (goInt s.size) (wz.setCells (w.heap.size + 1) 0 (bv s.size (strB s))) := fun ty c => by
    have h := run_copy_le (P := Tryz.prog) wz 88 9 ty 5 (w.heap.size + 1) 0 16 c s (bv s.size (strB s)) Tryz.underlying88 SZ.out hs (bv_text s s.size rfl) (fun j hj => by rw [bv_length] at hj; exact (Z2.out.there j (by omega)).1) (fun j hj => by rw [bv_length] at hj; exact (Z2.out.there j (by omega)).2)
    rw [bv_length] at h
    exact h
  have R2 : Hid (Row8 (wz.setCells (w.heap.size + 1) 0 (bv s.size (strB s))) (w.heap.size + 1) 159 16 (strB s)) := (rowIs_setCells (bv s.size (strB s)) 0 wz _ Z2.out).congr (fun i hi => by
    rw [bv_length]
    by_cases h : i < s.size
    · rw [if_pos (by omega), Nat.sub_zero, List.getD_eq_getElem?_getD, bv_at h]; rfl
    · rw [if_neg (by omega)]
      simp [strB, h])
  have R1 : Hid (Row8 (wz.setCells (w.heap.size + 1) 0 (bv s.size (strB s))) w.heap.size 159 16 (fun _ => 0)) := Z1.out.storedOther (by omega) _ _
  have B4 : Hid (Below w.heap.size w (wz.setCells (w.heap.size + 1) 0 (bv s.size (strB s)))) := below_setCells (by omega) _ _ _ B3.out
  generalize wz.setCells (w.heap.size + 1) 0 (bv s.size (strB s)) = wy at *
  clear Z1 Z2 B3
  go_upto_region 3 with fail
  clear CP
  generalize hG : strB s = G at *
  have HG : Hid (strB s = G) := hG
  clear hG
  refine wp_region_lit ?_
  refine wpList_load_mid rfl 159 (.tmp 3) rfl (w.heap.size + 1) 0 rfl (bv 16 G) _ R2.out.range Tryz.underlying159 rfl (by rw [bv_length]; exact Tryz.sizeSt) ?_
  refine wpList_store_mid rfl 159 (.tmp 2) (.tmp 7) rfl w.heap.size 0 (bA 16 G) rfl rfl (by rw [bA_size]; exact R1.out.there) (by rw [bA_size]; exact Tryz.sizeSt) (bA_one _ _) ?_
  rw [bA_toList]
  have L : Hid ((loadVar 159 ⟨w.heap.size, 0, none⟩).run Tryz.prog (wy.setCells (w.heap.size) 0 (bv 16 G)) = .ok (.agg (bA 16 G)) (wy.setCells (w.heap.size) 0 (bv 16 G))) := (R1.out.stored _).load Tryz.underlying159 rfl Tryz.sizeSt
  have B : Hid (Below w.heap.size w (wy.setCells (w.heap.size) 0 (bv 16 G))) := below_setCells (Nat.le_refl _) _ _ _ B4.out
  have eA : (bv 16 G).toArray = bA 16 G := rfl
  rw [eA]
  generalize wy.setCells (w.heap.size) 0 (bv 16 G) = wf at *
  generalize hA : bA 16 G = AA at *
  have HA : Hid (bA 16 G = AA) := hA
  clear hA eA
  go_wp2
  rw [HG.out, HA.out]
  exact bodyPost_ret (v := .agg AA) (results_cell_one (b := w.heap.size) (o := 0) Tryz.results136 _ _ _ rfl L.out) rfl ⟨rfl, B.out⟩
end Go.Proofs.YtbecnaabmlkjjabGreatDoor
namespace Go.Proofs.YtbecnaabmlkjjabGreatDoor
open Go.ChangeShapes Go.WideShapes Go.ChangeAt Go.RowKit
end Go.Proofs.YtbecnaabmlkjjabGreatDoor
namespace Go.Proofs.YtbecnaabmlkjjabGreatDoor
open Go.ChangeShapes Go.WideShapes Go.ChangeAt Go.RowKit
end Go.Proofs.YtbecnaabmlkjjabGreatDoor
namespace Go.Proofs.YtbecnaabmlkjjabGreatDoor
open Go.ChangeShapes Go.WideShapes Go.ChangeAt Go.RowKit
theorem cellBlock {w : World} {p : Addr} {v : Value} (h : w.cell? p = some v) : p.block < w.heap.size := by
  rcases Nat.lt_or_ge p.block w.heap.size with g | g
  · exact g
  · simp [World.cell?, Array.getElem?_eq_none g] at h
theorem numEq {k : IntKind} {a b : Int} (h : a = b) : Value.int k a = .int k b := by rw [h]

end Go.Proofs.YtbecnaabmlkjjabGreatDoor
namespace Go.Proofs.YtbecnaabmlkjjabGreatDoor
open Go.ChangeShapes Go.WideShapes Go.ChangeAt Go.RowKit
namespace Gf
def mx (a b c d x y : Nat) : Nat := (((((a ^^^ b) ^^^ c) ^^^ d)) ^^^ x) ^^^ dbl (x ^^^ y)
theorem mx_lt {a b c d x y : Nat} (ha : a < 256) (hb : b < 256) (hc : c < 256) (hd : d < 256) (hx : x < 256) (hy : y < 256) : mx a b c d x y < 256 :=
  xor_lt (xor_lt (xor_lt (xor_lt (xor_lt ha hb) hc) hd) hx) (dbl_lt _ (xor_lt hx hy))
end Gf
set_option maxRecDepth 100000 in
set_option maxHeartbeats 2000000 in
theorem mix_any (a b c d : Nat) (ha : a < 256) (hb : b < 256) (hc : c < 256) (hd : d < 256) (w : World) :
    Calls Tryz.prog 145 #[.agg #[.int .u8 a, .int .u8 b, .int .u8 c, .int .u8 d]] w fun e w' =>
      e = .returned (.agg #[.int .u8 (Gf.mx a b c d a b : Nat), .int .u8 (Gf.mx a b c d b c : Nat), .int .u8 (Gf.mx a b c d c d : Nat), .int .u8 (Gf.mx a b c d d a : Nat)]) ∧ Below w.heap.size w w' := by
  have hx : ∀ x y : Nat, x < 256 → y < 256 → bits .xor .u8 (x : Int) (y : Int) = ((x ^^^ y : Nat) : Int) := u8_xor_nat
  have hl : ∀ x y : Nat, x < 256 → y < 256 → x ^^^ y < 256 := fun x y => Gf.xor_lt
  have l1 := Gf.xor_lt ha hb
  have l2 := Gf.xor_lt l1 hc
  have l3 := Gf.xor_lt l2 hd
  have m1 := Gf.xor_lt hb hc
  have m2 := Gf.xor_lt hc hd
  have m3 := Gf.xor_lt hd ha
  have d0 := Gf.dbl_lt _ l1
  have d1 := Gf.dbl_lt _ m1
  have d2 := Gf.dbl_lt _ m2
  have d3 := Gf.dbl_lt _ m3
  have i0 : ∀ w : World, (Instr.index 191 (.agg #[.int .u8 a, .int .u8 b, .int .u8 c, .int .u8 d]) (.int .i64 0)).run Tryz.prog w = .ok (.int .u8 a) w := fun w => run_index_flat (k := 0) Tryz.underlying191 Tryz.underlying5 rfl Tryz.sizeU8 (by omega) rfl w
  have i1 : ∀ w : World, (Instr.index 191 (.agg #[.int .u8 a, .int .u8 b, .int .u8 c, .int .u8 d]) (.int .i64 1)).run Tryz.prog w = .ok (.int .u8 b) w := fun w => run_index_flat (k := 1) Tryz.underlying191 Tryz.underlying5 rfl Tryz.sizeU8 (by omega) rfl w
  have i2 : ∀ w : World, (Instr.index 191 (.agg #[.int .u8 a, .int .u8 b, .int .u8 c, .int .u8 d]) (.int .i64 2)).run Tryz.prog w = .ok (.int .u8 c) w := fun w => run_index_flat (k := 2) Tryz.underlying191 Tryz.underlying5 rfl Tryz.sizeU8 (by omega) rfl w
  have i3 : ∀ w : World, (Instr.index 191 (.agg #[.int .u8 a, .int .u8 b, .int .u8 c, .int .u8 d]) (.int .i64 3)).run Tryz.prog w = .ok (.int .u8 d) w := fun w => run_index_flat (k := 3) Tryz.underlying191 Tryz.underlying5 rfl Tryz.sizeU8 (by omega) rfl w
  go_enter Tryz.func145, Tryz.ntmps145
  go_wp2
  refine wp_loop_rounds 5 ?_
  rw [rounds_succ]
  go_wp2_with (go_at_call 140; refine (double_any (a ^^^ b) l1 _).mono ?_; rintro e w' ⟨rfl, rfl⟩)
  rw [rounds_succ]
  go_wp2_with (go_at_call 140; refine (double_any (b ^^^ c) m1 _).mono ?_; rintro e w' ⟨rfl, rfl⟩)
  rw [rounds_succ]
  go_wp2_with (go_at_call 140; refine (double_any (c ^^^ d) m2 _).mono ?_; rintro e w' ⟨rfl, rfl⟩)
  rw [rounds_succ]
  go_wp2_with (go_at_call 140; refine (double_any (d ^^^ a) m3 _).mono ?_; rintro e w' ⟨rfl, rfl⟩)
  rw [rounds_succ]
  go_wp2
  exact bodyPost_ret (v := .agg #[.int .u8 (Gf.mx a b c d a b : Nat), .int .u8 (Gf.mx a b c d b c : Nat), .int .u8 (Gf.mx a b c d c d : Nat), .int .u8 (Gf.mx a b c d d a : Nat)]) (by simp [results, Tryz.results145, go_sem, Gf.mx]) rfl ⟨rfl, (((Below.refl _ _).alloc (Nat.le_refl _) _).alloc (by simp) _).alloc (by simp; omega) _⟩

end Go.Proofs.YtbecnaabmlkjjabGreatDoor
namespace Go.Proofs.YtbecnaabmlkjjabGreatDoor
namespace Gf
def addK (s k : Nat → Nat) (j : Nat) : Nat := s j ^^^ k j
/-- Which byte comes to place j where rows are turned left. -/
def ord (j : Nat) : Nat := (j + 4 * (j % 4)) % 16
def subTurn (s : Nat → Nat) (j : Nat) : Nat := sub (s (ord j))
/-- Byte r of column o .. o + 3, mixed. -/
def mixAt (s : Nat → Nat) (o r : Nat) : Nat := mx (s o) (s (o + 1)) (s (o + 2)) (s (o + 3)) (s (o + r)) (s (o + (r + 1) % 4))
def mixS (s : Nat → Nat) (j : Nat) : Nat := mixAt s (j / 4 * 4) (j % 4)
/-- The i-th round key of 16 bytes. -/
def keyAt (K : Nat → Nat) (i j : Nat) : Nat := K (i * 16 + j)
def encTo (K : Nat → Nat) (s : Nat → Nat) : Nat → Nat → Nat
  | 0 => addK s (keyAt K 0)
  | i + 1 => addK (mixS (subTurn (encTo K s i))) (keyAt K (i + 1))
def enc (K : Nat → Nat) (R : Nat) (s : Nat → Nat) : Nat → Nat := addK (subTurn (encTo K s (R - 1))) (keyAt K R)
theorem ord_lt (j : Nat) : ord j < 16 := Nat.mod_lt _ (by omega)
theorem addK_lt {s k : Nat → Nat} {j : Nat} (hs : s j < 256) (hk : k j < 256) : addK s k j < 256 := xor_lt hs hk
theorem subTurn_lt {s : Nat → Nat} (hs : ∀ j, j < 16 → s j < 256) (j : Nat) : subTurn s j < 256 := sub_lt _ (hs _ (ord_lt j))
theorem mixAt_lt {s : Nat → Nat} {o r : Nat} (hs : ∀ j, j < 16 → s j < 256) (ho : o + 4 ≤ 16) (hr : r < 4) : mixAt s o r < 256 :=
  mx_lt (hs _ (by omega)) (hs _ (by omega)) (hs _ (by omega)) (hs _ (by omega)) (hs _ (by omega)) (hs _ (by have := Nat.mod_lt (r + 1) (show 0 < 4 by omega); omega))
theorem mixS_lt {s : Nat → Nat} (hs : ∀ j, j < 16 → s j < 256) (j : Nat) (hj : j < 16) : mixS s j < 256 := mixAt_lt hs (by omega) (Nat.mod_lt _ (by omega))
theorem encTo_lt {K s : Nat → Nat} (hK : ∀ j, K j < 256) (hs : ∀ j, j < 16 → s j < 256) : ∀ i j, j < 16 → encTo K s i j < 256 := by
  intro i
  induction i with
  | zero => intro j hj; exact addK_lt (hs j hj) (hK _)
  | succ i ih => intro j hj; exact addK_lt (mixS_lt (fun j _ => subTurn_lt ih j) j hj) (hK _)
theorem enc_lt {K s : Nat → Nat} {R : Nat} (hK : ∀ j, K j < 256) (hs : ∀ j, j < 16 → s j < 256) (j : Nat) : enc K R s j < 256 := addK_lt (subTurn_lt (encTo_lt hK hs _) j) (hK _)
end Gf
end Go.Proofs.YtbecnaabmlkjjabGreatDoor
namespace Go.Proofs.YtbecnaabmlkjjabGreatDoor
open Go.ChangeShapes Go.WideShapes Go.ChangeAt Go.RowKit
/-- The bits of 1, of -1 and of the nought below nought. -/
def fOne : Nat := 4607182418800017408
def fMin : Nat := 13830554455654793216
def fNeg : Nat := 9223372036854775808
theorem root0_any (w : World) : Calls Tryz.prog 148 #[.int .i64 0] w fun e w' => e = .returned (.complex .f64 fOne 0) ∧ w' = w := by
  go_enter Tryz.func148, Tryz.ntmps148
  go_wp2
  go_ret
  exact ⟨rfl, rfl⟩
theorem root1_any (w : World) : Calls Tryz.prog 148 #[.int .i64 1] w fun e w' => e = .returned (.complex .f64 0 fOne) ∧ w' = w := by
  go_enter Tryz.func148, Tryz.ntmps148
  go_wp2
  go_ret
  exact ⟨rfl, rfl⟩
theorem root2_any (w : World) : Calls Tryz.prog 148 #[.int .i64 2] w fun e w' => e = .returned (.complex .f64 fMin 0) ∧ w' = w := by
  go_enter Tryz.func148, Tryz.ntmps148
  go_wp2
  go_ret
  exact ⟨rfl, rfl⟩
theorem root3_any (w : World) : Calls Tryz.prog 148 #[.int .i64 3] w fun e w' => e = .returned (.complex .f64 0 fMin) ∧ w' = w := by
  go_enter Tryz.func148, Tryz.ntmps148
  go_wp2
  go_ret
  exact ⟨rfl, rfl⟩
theorem mul00 (w : World) : (binOp .mul 198 (.complex .f64 fOne 0) (.complex .f64 fOne 0)).run Tryz.prog w = .ok (.complex .f64 fOne 0) w := run_complex_mul w 198 fOne 0 fOne 0 fOne 0 (by kernel_rfl)
theorem neq00 (w : World) : (binOp .neq 198 (.complex .f64 fOne 0) (.complex .f64 fOne 0)).run Tryz.prog w = .ok (.bool false) w := by
  rw [run_neq_complex]; rw [show (!((FloatKind.f64.format.order fOne fOne == some .eq) && (FloatKind.f64.format.order 0 0 == some .eq))) = false by kernel_rfl]
theorem mul01 (w : World) : (binOp .mul 198 (.complex .f64 fOne 0) (.complex .f64 0 fOne)).run Tryz.prog w = .ok (.complex .f64 0 fOne) w := run_complex_mul w 198 fOne 0 0 fOne 0 fOne (by kernel_rfl)
theorem neq01 (w : World) : (binOp .neq 198 (.complex .f64 0 fOne) (.complex .f64 0 fOne)).run Tryz.prog w = .ok (.bool false) w := by
  rw [run_neq_complex]; rw [show (!((FloatKind.f64.format.order 0 0 == some .eq) && (FloatKind.f64.format.order fOne fOne == some .eq))) = false by kernel_rfl]
theorem mul02 (w : World) : (binOp .mul 198 (.complex .f64 fOne 0) (.complex .f64 fMin 0)).run Tryz.prog w = .ok (.complex .f64 fMin 0) w := run_complex_mul w 198 fOne 0 fMin 0 fMin 0 (by kernel_rfl)
theorem neq02 (w : World) : (binOp .neq 198 (.complex .f64 fMin 0) (.complex .f64 fMin 0)).run Tryz.prog w = .ok (.bool false) w := by
  rw [run_neq_complex]; rw [show (!((FloatKind.f64.format.order fMin fMin == some .eq) && (FloatKind.f64.format.order 0 0 == some .eq))) = false by kernel_rfl]
theorem mul03 (w : World) : (binOp .mul 198 (.complex .f64 fOne 0) (.complex .f64 0 fMin)).run Tryz.prog w = .ok (.complex .f64 0 fMin) w := run_complex_mul w 198 fOne 0 0 fMin 0 fMin (by kernel_rfl)
theorem neq03 (w : World) : (binOp .neq 198 (.complex .f64 0 fMin) (.complex .f64 0 fMin)).run Tryz.prog w = .ok (.bool false) w := by
  rw [run_neq_complex]; rw [show (!((FloatKind.f64.format.order 0 0 == some .eq) && (FloatKind.f64.format.order fMin fMin == some .eq))) = false by kernel_rfl]
theorem mul10 (w : World) : (binOp .mul 198 (.complex .f64 0 fOne) (.complex .f64 fOne 0)).run Tryz.prog w = .ok (.complex .f64 0 fOne) w := run_complex_mul w 198 0 fOne fOne 0 0 fOne (by kernel_rfl)
theorem neq10 (w : World) : (binOp .neq 198 (.complex .f64 0 fOne) (.complex .f64 0 fOne)).run Tryz.prog w = .ok (.bool false) w := by
  rw [run_neq_complex]; rw [show (!((FloatKind.f64.format.order 0 0 == some .eq) && (FloatKind.f64.format.order fOne fOne == some .eq))) = false by kernel_rfl]
theorem mul11 (w : World) : (binOp .mul 198 (.complex .f64 0 fOne) (.complex .f64 0 fOne)).run Tryz.prog w = .ok (.complex .f64 fMin 0) w := run_complex_mul w 198 0 fOne 0 fOne fMin 0 (by kernel_rfl)
theorem neq11 (w : World) : (binOp .neq 198 (.complex .f64 fMin 0) (.complex .f64 fMin 0)).run Tryz.prog w = .ok (.bool false) w := by
  rw [run_neq_complex]; rw [show (!((FloatKind.f64.format.order fMin fMin == some .eq) && (FloatKind.f64.format.order 0 0 == some .eq))) = false by kernel_rfl]
theorem mul12 (w : World) : (binOp .mul 198 (.complex .f64 0 fOne) (.complex .f64 fMin 0)).run Tryz.prog w = .ok (.complex .f64 fNeg fMin) w := run_complex_mul w 198 0 fOne fMin 0 fNeg fMin (by kernel_rfl)
theorem neq12 (w : World) : (binOp .neq 198 (.complex .f64 0 fMin) (.complex .f64 fNeg fMin)).run Tryz.prog w = .ok (.bool false) w := by
  rw [run_neq_complex]; rw [show (!((FloatKind.f64.format.order 0 fNeg == some .eq) && (FloatKind.f64.format.order fMin fMin == some .eq))) = false by kernel_rfl]
theorem mul13 (w : World) : (binOp .mul 198 (.complex .f64 0 fOne) (.complex .f64 0 fMin)).run Tryz.prog w = .ok (.complex .f64 fOne 0) w := run_complex_mul w 198 0 fOne 0 fMin fOne 0 (by kernel_rfl)
theorem neq13 (w : World) : (binOp .neq 198 (.complex .f64 fOne 0) (.complex .f64 fOne 0)).run Tryz.prog w = .ok (.bool false) w := by
  rw [run_neq_complex]; rw [show (!((FloatKind.f64.format.order fOne fOne == some .eq) && (FloatKind.f64.format.order 0 0 == some .eq))) = false by kernel_rfl]
theorem mul20 (w : World) : (binOp .mul 198 (.complex .f64 fMin 0) (.complex .f64 fOne 0)).run Tryz.prog w = .ok (.complex .f64 fMin 0) w := run_complex_mul w 198 fMin 0 fOne 0 fMin 0 (by kernel_rfl)
theorem neq20 (w : World) : (binOp .neq 198 (.complex .f64 fMin 0) (.complex .f64 fMin 0)).run Tryz.prog w = .ok (.bool false) w := by
  rw [run_neq_complex]; rw [show (!((FloatKind.f64.format.order fMin fMin == some .eq) && (FloatKind.f64.format.order 0 0 == some .eq))) = false by kernel_rfl]
theorem mul21 (w : World) : (binOp .mul 198 (.complex .f64 fMin 0) (.complex .f64 0 fOne)).run Tryz.prog w = .ok (.complex .f64 fNeg fMin) w := run_complex_mul w 198 fMin 0 0 fOne fNeg fMin (by kernel_rfl)
theorem neq21 (w : World) : (binOp .neq 198 (.complex .f64 0 fMin) (.complex .f64 fNeg fMin)).run Tryz.prog w = .ok (.bool false) w := by
  rw [run_neq_complex]; rw [show (!((FloatKind.f64.format.order 0 fNeg == some .eq) && (FloatKind.f64.format.order fMin fMin == some .eq))) = false by kernel_rfl]
theorem mul22 (w : World) : (binOp .mul 198 (.complex .f64 fMin 0) (.complex .f64 fMin 0)).run Tryz.prog w = .ok (.complex .f64 fOne fNeg) w := run_complex_mul w 198 fMin 0 fMin 0 fOne fNeg (by kernel_rfl)
theorem neq22 (w : World) : (binOp .neq 198 (.complex .f64 fOne 0) (.complex .f64 fOne fNeg)).run Tryz.prog w = .ok (.bool false) w := by
  rw [run_neq_complex]; rw [show (!((FloatKind.f64.format.order fOne fOne == some .eq) && (FloatKind.f64.format.order 0 fNeg == some .eq))) = false by kernel_rfl]
theorem mul23 (w : World) : (binOp .mul 198 (.complex .f64 fMin 0) (.complex .f64 0 fMin)).run Tryz.prog w = .ok (.complex .f64 0 fOne) w := run_complex_mul w 198 fMin 0 0 fMin 0 fOne (by kernel_rfl)
theorem neq23 (w : World) : (binOp .neq 198 (.complex .f64 0 fOne) (.complex .f64 0 fOne)).run Tryz.prog w = .ok (.bool false) w := by
  rw [run_neq_complex]; rw [show (!((FloatKind.f64.format.order 0 0 == some .eq) && (FloatKind.f64.format.order fOne fOne == some .eq))) = false by kernel_rfl]
theorem mul30 (w : World) : (binOp .mul 198 (.complex .f64 0 fMin) (.complex .f64 fOne 0)).run Tryz.prog w = .ok (.complex .f64 0 fMin) w := run_complex_mul w 198 0 fMin fOne 0 0 fMin (by kernel_rfl)
theorem neq30 (w : World) : (binOp .neq 198 (.complex .f64 0 fMin) (.complex .f64 0 fMin)).run Tryz.prog w = .ok (.bool false) w := by
  rw [run_neq_complex]; rw [show (!((FloatKind.f64.format.order 0 0 == some .eq) && (FloatKind.f64.format.order fMin fMin == some .eq))) = false by kernel_rfl]
theorem mul31 (w : World) : (binOp .mul 198 (.complex .f64 0 fMin) (.complex .f64 0 fOne)).run Tryz.prog w = .ok (.complex .f64 fOne 0) w := run_complex_mul w 198 0 fMin 0 fOne fOne 0 (by kernel_rfl)
theorem neq31 (w : World) : (binOp .neq 198 (.complex .f64 fOne 0) (.complex .f64 fOne 0)).run Tryz.prog w = .ok (.bool false) w := by
  rw [run_neq_complex]; rw [show (!((FloatKind.f64.format.order fOne fOne == some .eq) && (FloatKind.f64.format.order 0 0 == some .eq))) = false by kernel_rfl]
theorem mul32 (w : World) : (binOp .mul 198 (.complex .f64 0 fMin) (.complex .f64 fMin 0)).run Tryz.prog w = .ok (.complex .f64 0 fOne) w := run_complex_mul w 198 0 fMin fMin 0 0 fOne (by kernel_rfl)
theorem neq32 (w : World) : (binOp .neq 198 (.complex .f64 0 fOne) (.complex .f64 0 fOne)).run Tryz.prog w = .ok (.bool false) w := by
  rw [run_neq_complex]; rw [show (!((FloatKind.f64.format.order 0 0 == some .eq) && (FloatKind.f64.format.order fOne fOne == some .eq))) = false by kernel_rfl]
theorem mul33 (w : World) : (binOp .mul 198 (.complex .f64 0 fMin) (.complex .f64 0 fMin)).run Tryz.prog w = .ok (.complex .f64 fMin fNeg) w := run_complex_mul w 198 0 fMin 0 fMin fMin fNeg (by kernel_rfl)
theorem neq33 (w : World) : (binOp .neq 198 (.complex .f64 fMin 0) (.complex .f64 fMin fNeg)).run Tryz.prog w = .ok (.bool false) w := by
  rw [run_neq_complex]; rw [show (!((FloatKind.f64.format.order fMin fMin == some .eq) && (FloatKind.f64.format.order 0 fNeg == some .eq))) = false by kernel_rfl]
def ordA : Array Value := #[.int .i64 0, .int .i64 5, .int .i64 10, .int .i64 15, .int .i64 4, .int .i64 9, .int .i64 14, .int .i64 3, .int .i64 8, .int .i64 13, .int .i64 2, .int .i64 7, .int .i64 12, .int .i64 1, .int .i64 6, .int .i64 11]
theorem ordI (k : Nat) (v : Int) (hk : k < 16) (hv : ordA[k]? = some (.int .i64 v)) (w : World) : (Instr.index 162 (.agg ordA) (.int .i64 (k : Int))).run Tryz.prog w = .ok (.int .i64 v) w :=
  run_index_flat Tryz.underlying162 Tryz.underlying3 rfl (by kernel_rfl) hk hv w
theorem range_alloc (w : World) (A : Array Value) (t : TypeId) : (w.alloc (.cells A t)).rangeAt w.heap.size 0 A.toList := fun j v hv => by
  rw [Nat.zero_add]
  have h := World.rowIs_alloc w A t (fun i => A.getD i undef) (fun i hi => by simp [hi])
  have hj : j < A.size := by have := (List.getElem?_eq_some_iff.1 hv).1; simpa using this
  rw [h.cell hj]
  have : A[j]? = some v := by simpa using hv
  simp [this]
theorem Tryz.sizeO : (Tryz.prog.info? 162).map (·.size) = some 16 := by kernel_rfl
theorem ordA_len : ordA.toList.length = 16 := rfl
set_option maxRecDepth 100000 in
set_option maxHeartbeats 4000000 in
theorem turnsLeft_any (w : World) : Calls Tryz.prog 144 #[.agg ordA] w fun e w' => e = .returned (.bool true) ∧ Below w.heap.size w w' := by
  have i0 : ∀ w, (Instr.index 162 (.agg ordA) (.int .i64 0)).run Tryz.prog w = .ok (.int .i64 0) w := ordI 0 0 (by omega) rfl
  have i1 : ∀ w, (Instr.index 162 (.agg ordA) (.int .i64 1)).run Tryz.prog w = .ok (.int .i64 5) w := ordI 1 5 (by omega) rfl
  have i2 : ∀ w, (Instr.index 162 (.agg ordA) (.int .i64 2)).run Tryz.prog w = .ok (.int .i64 10) w := ordI 2 10 (by omega) rfl
  have i3 : ∀ w, (Instr.index 162 (.agg ordA) (.int .i64 3)).run Tryz.prog w = .ok (.int .i64 15) w := ordI 3 15 (by omega) rfl
  have i4 : ∀ w, (Instr.index 162 (.agg ordA) (.int .i64 4)).run Tryz.prog w = .ok (.int .i64 4) w := ordI 4 4 (by omega) rfl
  have i5 : ∀ w, (Instr.index 162 (.agg ordA) (.int .i64 5)).run Tryz.prog w = .ok (.int .i64 9) w := ordI 5 9 (by omega) rfl
  have i6 : ∀ w, (Instr.index 162 (.agg ordA) (.int .i64 6)).run Tryz.prog w = .ok (.int .i64 14) w := ordI 6 14 (by omega) rfl
  have i7 : ∀ w, (Instr.index 162 (.agg ordA) (.int .i64 7)).run Tryz.prog w = .ok (.int .i64 3) w := ordI 7 3 (by omega) rfl
  have i8 : ∀ w, (Instr.index 162 (.agg ordA) (.int .i64 8)).run Tryz.prog w = .ok (.int .i64 8) w := ordI 8 8 (by omega) rfl
  have i9 : ∀ w, (Instr.index 162 (.agg ordA) (.int .i64 9)).run Tryz.prog w = .ok (.int .i64 13) w := ordI 9 13 (by omega) rfl
  have i10 : ∀ w, (Instr.index 162 (.agg ordA) (.int .i64 10)).run Tryz.prog w = .ok (.int .i64 2) w := ordI 10 2 (by omega) rfl
  have i11 : ∀ w, (Instr.index 162 (.agg ordA) (.int .i64 11)).run Tryz.prog w = .ok (.int .i64 7) w := ordI 11 7 (by omega) rfl
  have i12 : ∀ w, (Instr.index 162 (.agg ordA) (.int .i64 12)).run Tryz.prog w = .ok (.int .i64 12) w := ordI 12 12 (by omega) rfl
  have i13 : ∀ w, (Instr.index 162 (.agg ordA) (.int .i64 13)).run Tryz.prog w = .ok (.int .i64 1) w := ordI 13 1 (by omega) rfl
  have i14 : ∀ w, (Instr.index 162 (.agg ordA) (.int .i64 14)).run Tryz.prog w = .ok (.int .i64 6) w := ordI 14 6 (by omega) rfl
  have i15 : ∀ w, (Instr.index 162 (.agg ordA) (.int .i64 15)).run Tryz.prog w = .ok (.int .i64 11) w := ordI 15 11 (by omega) rfl
  have R : Hid ((w.alloc (.cells ordA 162)).rangeAt w.heap.size 0 ordA.toList) := range_alloc w ordA 162
  have m00 := mul00
  have n00 := neq00
  have m01 := mul01
  have n01 := neq01
  have m02 := mul02
  have n02 := neq02
  have m03 := mul03
  have n03 := neq03
  have m10 := mul10
  have n10 := neq10
  have m11 := mul11
  have n11 := neq11
  have m12 := mul12
  have n12 := neq12
  have m13 := mul13
  have n13 := neq13
  have m20 := mul20
  have n20 := neq20
  have m21 := mul21
  have n21 := neq21
  have m22 := mul22
  have n22 := neq22
  have m23 := mul23
  have n23 := neq23
  have m30 := mul30
  have n30 := neq30
  have m31 := mul31
  have n31 := neq31
  have m32 := mul32
  have n32 := neq32
  have m33 := mul33
  have n33 := neq33
  go_enter Tryz.func144, Tryz.ntmps144
  go_wp2_with (refine wpList_load_mid rfl 162 (.tmp 1) rfl w.heap.size 0 rfl ordA.toList _ R.out Tryz.underlying162 rfl (by rw [ordA_len]; exact Tryz.sizeO) ?_)
  clear R
  have r0 := root0_any
  have r1 := root1_any
  have r2 := root2_any
  have r3 := root3_any
  have RR : Hid ((∀ w : World, Calls Tryz.prog 148 #[.int .i64 0] w fun e w' => e = .returned (.complex .f64 fOne 0) ∧ w' = w) ∧ (∀ w : World, Calls Tryz.prog 148 #[.int .i64 1] w fun e w' => e = .returned (.complex .f64 0 fOne) ∧ w' = w) ∧ (∀ w : World, Calls Tryz.prog 148 #[.int .i64 2] w fun e w' => e = .returned (.complex .f64 fMin 0) ∧ w' = w) ∧ (∀ w : World, Calls Tryz.prog 148 #[.int .i64 3] w fun e w' => e = .returned (.complex .f64 0 fMin) ∧ w' = w)) := ⟨r0, r1, r2, r3⟩
  clear r0 r1 r2 r3
  generalize ordA = A at *
  generalize fOne = F1 at *
  generalize fMin = F2 at *
  generalize fNeg = F3 at *
  refine wp_loop_rounds 17 ?_
  rw [rounds_succ]
  go_wp2_with fail
  refine (RR.out.1 _).mono ?_; rintro e w' ⟨rfl, rfl⟩
  go_wp2_with fail
  refine (RR.out.1 _).mono ?_; rintro e w' ⟨rfl, rfl⟩
  go_wp2_with fail
  refine (RR.out.1 _).mono ?_; rintro e w' ⟨rfl, rfl⟩
  go_wp2_with fail
  rw [rounds_succ]
  go_wp2_with fail
  refine (RR.out.2.1 _).mono ?_; rintro e w' ⟨rfl, rfl⟩
  go_wp2_with fail
  refine (RR.out.1 _).mono ?_; rintro e w' ⟨rfl, rfl⟩
  go_wp2_with fail
  refine (RR.out.2.1 _).mono ?_; rintro e w' ⟨rfl, rfl⟩
  go_wp2_with fail
  rw [rounds_succ]
  go_wp2_with fail
  refine (RR.out.2.2.1 _).mono ?_; rintro e w' ⟨rfl, rfl⟩
  go_wp2_with fail
  refine (RR.out.1 _).mono ?_; rintro e w' ⟨rfl, rfl⟩
  go_wp2_with fail
  refine (RR.out.2.2.1 _).mono ?_; rintro e w' ⟨rfl, rfl⟩
  go_wp2_with fail
  rw [rounds_succ]
  go_wp2_with fail
  refine (RR.out.2.2.2 _).mono ?_; rintro e w' ⟨rfl, rfl⟩
  go_wp2_with fail
  refine (RR.out.1 _).mono ?_; rintro e w' ⟨rfl, rfl⟩
  go_wp2_with fail
  refine (RR.out.2.2.2 _).mono ?_; rintro e w' ⟨rfl, rfl⟩
  go_wp2_with fail
  rw [rounds_succ]
  go_wp2_with fail
  refine (RR.out.2.1 _).mono ?_; rintro e w' ⟨rfl, rfl⟩
  go_wp2_with fail
  refine (RR.out.2.1 _).mono ?_; rintro e w' ⟨rfl, rfl⟩
  go_wp2_with fail
  refine (RR.out.1 _).mono ?_; rintro e w' ⟨rfl, rfl⟩
  go_wp2_with fail
  rw [rounds_succ]
  go_wp2_with fail
  refine (RR.out.2.2.1 _).mono ?_; rintro e w' ⟨rfl, rfl⟩
  go_wp2_with fail
  refine (RR.out.2.1 _).mono ?_; rintro e w' ⟨rfl, rfl⟩
  go_wp2_with fail
  refine (RR.out.2.1 _).mono ?_; rintro e w' ⟨rfl, rfl⟩
  go_wp2_with fail
  rw [rounds_succ]
  go_wp2_with fail
  refine (RR.out.2.2.2 _).mono ?_; rintro e w' ⟨rfl, rfl⟩
  go_wp2_with fail
  refine (RR.out.2.1 _).mono ?_; rintro e w' ⟨rfl, rfl⟩
  go_wp2_with fail
  refine (RR.out.2.2.1 _).mono ?_; rintro e w' ⟨rfl, rfl⟩
  go_wp2_with fail
  rw [rounds_succ]
  go_wp2_with fail
  refine (RR.out.1 _).mono ?_; rintro e w' ⟨rfl, rfl⟩
  go_wp2_with fail
  refine (RR.out.2.1 _).mono ?_; rintro e w' ⟨rfl, rfl⟩
  go_wp2_with fail
  refine (RR.out.2.2.2 _).mono ?_; rintro e w' ⟨rfl, rfl⟩
  go_wp2_with fail
  rw [rounds_succ]
  go_wp2_with fail
  refine (RR.out.2.2.1 _).mono ?_; rintro e w' ⟨rfl, rfl⟩
  go_wp2_with fail
  refine (RR.out.2.2.1 _).mono ?_; rintro e w' ⟨rfl, rfl⟩
  go_wp2_with fail
  refine (RR.out.1 _).mono ?_; rintro e w' ⟨rfl, rfl⟩
  go_wp2_with fail
  rw [rounds_succ]
  go_wp2_with fail
  refine (RR.out.2.2.2 _).mono ?_; rintro e w' ⟨rfl, rfl⟩
  go_wp2_with fail
  refine (RR.out.2.2.1 _).mono ?_; rintro e w' ⟨rfl, rfl⟩
  go_wp2_with fail
  refine (RR.out.2.1 _).mono ?_; rintro e w' ⟨rfl, rfl⟩
  go_wp2_with fail
  rw [rounds_succ]
  go_wp2_with fail
  refine (RR.out.1 _).mono ?_; rintro e w' ⟨rfl, rfl⟩
  go_wp2_with fail
  refine (RR.out.2.2.1 _).mono ?_; rintro e w' ⟨rfl, rfl⟩
  go_wp2_with fail
  refine (RR.out.2.2.1 _).mono ?_; rintro e w' ⟨rfl, rfl⟩
  go_wp2_with fail
  rw [rounds_succ]
  go_wp2_with fail
  refine (RR.out.2.1 _).mono ?_; rintro e w' ⟨rfl, rfl⟩
  go_wp2_with fail
  refine (RR.out.2.2.1 _).mono ?_; rintro e w' ⟨rfl, rfl⟩
  go_wp2_with fail
  refine (RR.out.2.2.2 _).mono ?_; rintro e w' ⟨rfl, rfl⟩
  go_wp2_with fail
  rw [rounds_succ]
  go_wp2_with fail
  refine (RR.out.2.2.2 _).mono ?_; rintro e w' ⟨rfl, rfl⟩
  go_wp2_with fail
  refine (RR.out.2.2.2 _).mono ?_; rintro e w' ⟨rfl, rfl⟩
  go_wp2_with fail
  refine (RR.out.1 _).mono ?_; rintro e w' ⟨rfl, rfl⟩
  go_wp2_with fail
  rw [rounds_succ]
  go_wp2_with fail
  refine (RR.out.1 _).mono ?_; rintro e w' ⟨rfl, rfl⟩
  go_wp2_with fail
  refine (RR.out.2.2.2 _).mono ?_; rintro e w' ⟨rfl, rfl⟩
  go_wp2_with fail
  refine (RR.out.2.1 _).mono ?_; rintro e w' ⟨rfl, rfl⟩
  go_wp2_with fail
  rw [rounds_succ]
  go_wp2_with fail
  refine (RR.out.2.1 _).mono ?_; rintro e w' ⟨rfl, rfl⟩
  go_wp2_with fail
  refine (RR.out.2.2.2 _).mono ?_; rintro e w' ⟨rfl, rfl⟩
  go_wp2_with fail
  refine (RR.out.2.2.1 _).mono ?_; rintro e w' ⟨rfl, rfl⟩
  go_wp2_with fail
  rw [rounds_succ]
  go_wp2_with fail
  refine (RR.out.2.2.1 _).mono ?_; rintro e w' ⟨rfl, rfl⟩
  go_wp2_with fail
  refine (RR.out.2.2.2 _).mono ?_; rintro e w' ⟨rfl, rfl⟩
  go_wp2_with fail
  refine (RR.out.2.2.2 _).mono ?_; rintro e w' ⟨rfl, rfl⟩
  go_wp2_with fail
  rw [rounds_succ]
  go_wp2
  go_ret
  exact ⟨rfl, (Below.refl _ _).alloc (Nat.le_refl _) _⟩
end Go.Proofs.YtbecnaabmlkjjabGreatDoor
namespace Go.Proofs.YtbecnaabmlkjjabGreatDoor
open Go.ChangeShapes Go.WideShapes Go.ChangeAt Go.RowKit
theorem range_below {w w' : World} {b o : Nat} {cs : List Value} (h : w.rangeAt b o cs) (hb : Below w.heap.size w w') : w'.rangeAt b o cs := fun j v hv => by
  have c := h j v hv
  have hlt : b < w.heap.size := by
    rcases Nat.lt_or_ge b w.heap.size with g | g
    · exact g
    · simp [World.cell?, Array.getElem?_eq_none g] at c
  rw [hb.cell (p := ⟨b, o + j, none⟩) hlt]; exact c
theorem there_below {w w' : World} {b o n : Nat} (h : w.there b o n) (hlt : b < w.heap.size) (hb : Below w.heap.size w w') : w'.there b o n := fun j hj => by
  rw [hb.cell (p := ⟨b, o + j, none⟩) hlt, hb.frozen (p := ⟨b, o + j, none⟩) hlt]; exact h j hj
theorem there_alloc (w : World) (A : Array Value) (t : TypeId) : (w.alloc (.cells A t)).there w.heap.size 0 A.size := fun j hj => by
  have h := World.rowIs_alloc w A t (fun i => A.getD i undef) (fun i hi => by simp [hi])
  rw [Nat.zero_add, h.cell hj, h.frozen j]
  exact ⟨rfl, rfl⟩
def zI16 : Array Value := #[.int .i64 0, .int .i64 0, .int .i64 0, .int .i64 0, .int .i64 0, .int .i64 0, .int .i64 0, .int .i64 0, .int .i64 0, .int .i64 0, .int .i64 0, .int .i64 0, .int .i64 0, .int .i64 0, .int .i64 0, .int .i64 0]
theorem ordA_size : ordA.size = 16 := rfl
theorem ordA_one : ordA.all (·.oneCell') = true := by kernel_rfl
set_option maxRecDepth 100000 in
set_option maxHeartbeats 4000000 in
/-- impl.rowOrder -/
theorem rowOrder_any (w : World) : Calls Tryz.prog 132 #[] w fun e w' => e = .returned (.agg ordA) ∧ Below w.heap.size w w' := by
  have T := turnsLeft_any ((w.alloc (.cells zI16 162)).alloc (.cells ordA 162))
  have Z0 : ((w.alloc (.cells zI16 162)).alloc (.cells ordA 162)).there w.heap.size 0 16 := there_below (there_alloc w zI16 162) (by simp) ((Below.refl _ _).alloc (Nat.le_refl _) _)
  have R0 : ((w.alloc (.cells zI16 162)).alloc (.cells ordA 162)).rangeAt (w.heap.size + 1) 0 ordA.toList := by
    have := range_alloc (w.alloc (.cells zI16 162)) ordA 162
    simpa using this
  have B0 : Below w.heap.size w ((w.alloc (.cells zI16 162)).alloc (.cells ordA 162)) := ((Below.refl _ _).alloc (Nat.le_refl _) _).alloc (by simp) _
  have C : Hid (Calls Tryz.prog 144 #[.agg ordA] ((w.alloc (.cells zI16 162)).alloc (.cells ordA 162)) fun e w' => e = .returned (.bool true) ∧ (w'.there w.heap.size 0 16 ∧ w'.rangeAt (w.heap.size + 1) 0 ordA.toList ∧ Below w.heap.size w w')) :=
    T.mono fun e w' ⟨he, hb⟩ => ⟨he, there_below Z0 (by simp; omega) hb, range_below R0 hb, B0.trans (hb.mono (by simp; omega))⟩
  clear T Z0 R0 B0
  go_enter Tryz.func132, Tryz.ntmps132
  go_wp2_with fail
  have C' := C.out
  unfold zI16 ordA at C'
  refine Calls.mono C' ?_
  clear C'
  rw [← ordA.eq_1]
  rintro e w1 ⟨rfl, hz, hr, hb⟩
  have HZ : Hid (w1.there w.heap.size 0 16) := hz
  have HR : Hid (w1.rangeAt (w.heap.size + 1) 0 ordA.toList) := hr
  have HB : Hid (Below w.heap.size w w1) := hb
  clear hz hr hb C
  have hA1 : Hid ((Tryz.prog.info? 162).map (·.size) = some ordA.toList.length) := Tryz.sizeO
  have hA2 : Hid (ordA.all (·.oneCell') = true) := ordA_one
  have hA3 : Hid (ordA.size = 16) := ordA_size
  generalize hE : ordA = A at *
  have HE : Hid (ordA = A) := hE
  clear hE
  go_wp2_with (first
    | (refine wpList_load_mid rfl 162 (.tmp 1) rfl (w.heap.size + 1) 0 rfl A.toList _ HR.out Tryz.underlying162 rfl hA1.out ?_)
    | (refine wpList_store_mid rfl 162 (.tmp 0) (.tmp 6) rfl w.heap.size 0 A rfl rfl (by rw [hA3.out]; exact HZ.out) (by rw [hA3.out]; exact Tryz.sizeO) hA2.out ?_))
  have hL : (w1.setCells w.heap.size 0 A.toList).rangeAt w.heap.size 0 A.toList := World.rangeAt_setCells_same w1 w.heap.size 0 A.toList (by rw [Array.length_toList, hA3.out]; exact HZ.out)
  have Lo : (loadVar 162 ⟨w.heap.size, 0, none⟩).run Tryz.prog (w1.setCells w.heap.size 0 A.toList) = .ok (.agg A) (w1.setCells w.heap.size 0 A.toList) := run_loadVar_mid _ w.heap.size 0 162 A.toList _ hL Tryz.underlying162 rfl hA1.out
  have Bo : Below w.heap.size w (w1.setCells w.heap.size 0 A.toList) := below_setCells (Nat.le_refl _) _ _ _ HB.out
  rw [HE.out]
  exact bodyPost_ret (v := .agg A) (results_cell_one (b := w.heap.size) (o := 0) Tryz.results132 _ _ _ rfl Lo) rfl ⟨rfl, Bo⟩
end Go.Proofs.YtbecnaabmlkjjabGreatDoor
