/-
  Texts of the proof, joined: RowMT, TreeM, TreeI.
-/
import Derived.Test.YtiamaoihachhgaaGreatDoorE14
import Derived.Lib.AppendStr
import Derived.Test.YtiamaoihachhgaaGreatDoorE15
import Derived.Test.YtiamaoihachhgaaGreatDoorTkH
import Derived.Test.YtiamaoihachhgaaGreatDoorChH
namespace Go.Proofs.YtiamaoihachhgaaGreatDoor
open Go.ChangeShapes Go.WideShapes Go.ChangeAt Go.RowKit
set_option linter.unusedVariables false
theorem bv_textR (s : ByteArray) (n : Nat) (h : s.size = n) : bv n (strB s) = s.data.toList.map (fun b => .int .u8 b.toNat) := by
 apply List.ext_getElem
 ·rw [bv_length]; simp [h]
 ·intro i h1 h2
  have hi : i < n := by rwa [bv_length] at h1
  have hi' : i < s.size := by omega
  have e := bv_at (n := n) (f := strB s) hi
  rw [List.getElem?_eq_getElem h1] at e
  rw [Option.some.inj e, List.getElem_map, ← ba_get s i hi']
  simp [strB, hi']
theorem strCells_bv (s : ByteArray) : Lib.strCells s = bv s.size (strB s) := (bv_textR s s.size rfl).symm
theorem run_append_room_textM (w : World) (ty : TypeId) (i : TypeInfo) (hi : Tryz.prog.info? 5 = some i) (h3 : i.size = 1) (b sLen sCap : Nat) (s : ByteArray) (hroom : sLen + s.size ≤ sCap)
  (hc : ∀ j, j < (Lib.strCells s).length → (w.cell? ⟨b, sLen + j, none⟩).isSome = true) (hf : ∀ j, j < (Lib.strCells s).length → w.frozen? ⟨b, sLen + j, none⟩ = false) :
  (Builtin.append_ #[41, 9] ty #[.slice (some ⟨b, 0, none⟩) sLen sCap, .string s]).run Tryz.prog w = .ok (.slice (some ⟨b, 0, none⟩) (sLen + s.size) sCap) (w.setCells b sLen (Lib.strCells s)) := by
 have hfc := Lib.run_firstCells_string (P := Tryz.prog) w 1 s
 have hst := run_storeCells_cells (P := Tryz.prog) b sLen (Lib.strCells s) 0 w (by simpa using hc) (by simpa using hf) (Lib.strCells_oneCell s)
 simp only [Nat.add_zero] at hst
 simp [Builtin.append_, run_underlying Tryz.underlying41, run_underlying Tryz.underlying9, sizeOf, typeInfo, hi, h3, Builtin.lenOf, hroom, hfc, Addr.add_lit, hst]
theorem appendMT (w : World) (B g n cap : Nat) (F : Nat → Nat) (s : ByteArray) (hB : B ≤ g) (hBw : B ≤ w.heap.size) (hnm : n + s.size ≤ 2000000) (h : RowM w g n cap F) (ty : TypeId) :
  ∃ g' cap' w', (Builtin.append_ #[41, 9] ty #[.slice (some ⟨g, 0, none⟩) n cap, .string s]).run Tryz.prog w = .ok (.slice (some ⟨g', 0, none⟩) (n + s.size) cap') w' ∧ RowM w' g' (n + s.size) cap' (Sha.cat n F (strB s)) ∧ Below B w w' ∧ B ≤ g' := by
 obtain ⟨i0, h1, h2, h3, h4⟩ := info_parts Tryz.info8
 by_cases hroom : n + s.size ≤ cap
 ·have hth : w.there g 0 cap := fun j hj => by rw [Nat.zero_add]; exact h.2.2.1 j hj
  have hth2 := World.there_setCells hth g n (bv s.size (strB s))
  have hin : (w.setCells g n (bv s.size (strB s))).rangeAt g n (bv s.size (strB s)) := World.rangeAt_setCells_same w g n (bv s.size (strB s)) (fun j hj => by rw [bv_length] at hj; exact h.2.2.1 (n + j) (by omega))
  refine ⟨g, cap, w.setCells g n (bv s.size (strB s)), ?_, ⟨hroom, fun i hi => ?_, fun i hi => by have := hth2 i hi; rwa [Nat.zero_add] at this, Nat.lt_of_lt_of_le h.2.2.2 (below_setCells hB (bv s.size (strB s)) n w (Below.refl B w)).size⟩, below_setCells hB _ _ _ (Below.refl _ _), hB⟩
  ·rw [← strCells_bv]
   exact run_append_room_textM w ty i0 h1 h3 g n cap s hroom (fun j hj => by rw [Lib.strCells_length] at hj; exact (h.2.2.1 (n + j) (by omega)).1) (fun j hj => by rw [Lib.strCells_length] at hj; exact (h.2.2.1 (n + j) (by omega)).2)
  ·unfold Sha.cat
   by_cases hin2 : i < n
   ·rw [if_pos hin2, World.cell?_setCells_out g (bv s.size (strB s)) n w ⟨g, i, none⟩ (fun _ _ => .inl hin2)]
    exact h.2.1 i hin2
   ·rw [if_neg hin2]
    have := hin (i - n) _ (bv_at (f := strB s) (show i - n < s.size by omega))
    rwa [show n + (i - n) = i from by omega] at this
 ·have hlt : cap < n + s.size := by omega
  have hrun := Lib.run_append_grow_string (P := Tryz.prog) w 41 9 ty 5 i0 (.int .u8 0) Tryz.underlying41 Tryz.underlying9 h1 h2 ⟨g, 0, none⟩ n cap (bv n F) (by rw [bv_length, h3, Nat.mul_one]) (bv_news h.code) s hlt (by omega) (growslice_fits hlt (by rw [h4]; omega))
  have hge := grownCap_ge w (n + s.size) cap 5
  obtain ⟨gc, hgc⟩ : ∃ gc, gc = grownCap w (n + s.size) cap 5 := ⟨_, rfl⟩
  rw [← hgc] at hrun hge
  obtain ⟨cs, hcs⟩ : ∃ cs, cs = (bv n F).toArray ++ (Lib.strCells s).toArray ++ Builtin.zeroCells (Value.int .u8 0).cells (gc - (n + s.size)) := ⟨_, rfl⟩
  rw [← hcs] at hrun
  have hzl : (Builtin.zeroCells (Value.int .u8 0).cells (gc - (n + s.size))).size = gc - (n + s.size) := by simp [Builtin.zeroCells, Value.cells]
  have hsz : cs.size = gc := by rw [hcs, Array.size_append, Array.size_append, hzl, List.size_toArray, List.size_toArray, bv_length, Lib.strCells_length]; omega
  have hh : (w.drew.alloc (.cells cs 5)).heap[w.heap.size]? = some (.cells cs 5 (0, 0)) := heap_alloc_new w.drew _
  have hat : ∀ i, i < n + s.size → cs[i]? = some (.int .u8 ((Sha.cat n F (strB s) i : Nat) : Int)) := fun i hi => by
   have e : cs.toList = bv (n + s.size) (Sha.cat n F (strB s)) ++ (Builtin.zeroCells (Value.int .u8 0).cells (gc - (n + s.size))).toList := by
    rw [hcs, strCells_bv, Array.toList_append, Array.toList_append]
    show bv n F ++ bv s.size (strB s) ++ _ = _
    rw [bv_append]
    rfl
   rw [← Array.getElem?_toList, e, List.getElem?_append_left (by rw [bv_length]; exact hi)]
   exact bv_at hi
  refine ⟨w.heap.size, gc, _, hrun, ⟨hge, fun i hi => ?_, fun i hi => ⟨?_, ?_⟩, ?_⟩, ((Below.refl B w).drew).alloc hBw _, hBw⟩
  ·simp only [World.cell?, hh]
   simpa using hat i hi
  ·simp only [World.cell?, hh]
   simp [hsz, hi]
  ·simp only [World.frozen?, hh]
   simp
  ·show w.heap.size < (w.drew.alloc _).heap.size
   simp
def hashT (s : ByteArray) : ByteArray := hashS s.size (strB s)
theorem hashT_size (s : ByteArray) : (hashT s).size = 32 := hashS_size _ _
end Go.Proofs.YtiamaoihachhgaaGreatDoor
namespace Go.Proofs.YtiamaoihachhgaaGreatDoor
open Go.ChangeShapes Go.WideShapes Go.ChangeAt Go.RowKit
set_option linter.unusedVariables false
def fourT (x : Nat) : ByteArray := kstr (fourF x) 0 4
theorem fourT_size (x : Nat) : (fourT x).size = 4 := kstr_size _ _ _
theorem fourT_at (x i : Nat) (h : i < 4) : strB (fourT x) i = fourF x i := by
 unfold fourT
 rw [strB_kstr _ _ _ _ (by rw [Nat.zero_add]; exact fourF_lt _ _) h, Nat.zero_add]
def blockL : ByteArray := ⟨#[98, 108, 111, 99, 107]⟩
def bsumX (p v : Nat) (s : ByteArray) : ByteArray := blockL ++ fourT p ++ fourT v ++ s
def bsumT (p v : Nat) (s : ByteArray) : ByteArray := hashT (bsumX p v s)
def leafX (x : Lf) : ByteArray := ⟨#[0]⟩ ++ fourT x.v.toNat ++ x.h
def leafT (x : Lf) : ByteArray := hashT (leafX x)
def nodeX (a b : ByteArray) : ByteArray := ⟨#[1]⟩ ++ a ++ b
def nodeT (a b : ByteArray) : ByteArray := hashT (nodeX a b)
def noneT : ByteArray := hashT ⟨#[2]⟩
theorem leafX_size (x : Lf) : (leafX x).size = 5 + x.h.size := by
 unfold leafX
 rw [ByteArray.size_append, ByteArray.size_append, fourT_size]
 rfl
theorem nodeX_size (a b : ByteArray) : (nodeX a b).size = 1 + a.size + b.size := by
 unfold nodeX
 rw [ByteArray.size_append, ByteArray.size_append]
 rfl
theorem bsumX_size (p v : Nat) (s : ByteArray) : (bsumX p v s).size = 13 + s.size := by
 unfold bsumX
 rw [ByteArray.size_append, ByteArray.size_append, ByteArray.size_append, fourT_size, fourT_size]
 rfl
theorem leafX_is (x : Lf) (f : Nat → Nat) (hf : f 0 = 0) (i : Nat) (hi : i < 5 + x.h.size) : Sha.cat 5 (numF 1 4 x.v.toNat f) (strB x.h) i = strB (leafX x) i := by
 unfold leafX
 rw [strB_append, strB_append, ByteArray.size_append, fourT_size]
 show Sha.cat 5 _ _ i = if i < 1 + 4 then (if i < 1 then _ else _) else _
 unfold Sha.cat
 rcases Nat.lt_or_ge i 5 with h | h
 ·rw [if_pos h, if_pos (by omega)]
  rcases Nat.lt_or_ge i 1 with h1 | h1
  ·obtain rfl : i = 0 := by omega
   rw [if_pos (by omega)]
   unfold numF
   rw [if_pos (by omega), hf]
   rfl
  ·rw [if_neg (by omega)]
   show _ = strB (fourT x.v.toNat) (i - 1)
   rw [fourT_at _ _ (by omega), show i = 1 + (i - 1) from by omega, four_num, show 1 + (i - 1) - 1 = i - 1 from by omega]
 ·rw [if_neg (by omega), if_neg (by omega)]
  rfl
theorem nodeX_is (a b : ByteArray) (f : Nat → Nat) (hf : f 0 = 1) (i : Nat) (hi : i < 1 + a.size + b.size) : Sha.cat (1 + a.size) (Sha.cat 1 f (strB a)) (strB b) i = strB (nodeX a b) i := by
 unfold nodeX
 rw [strB_append, strB_append, ByteArray.size_append]
 show Sha.cat _ _ _ i = if i < 1 + a.size then (if i < 1 then _ else strB a (i - 1)) else strB b (i - (1 + a.size))
 unfold Sha.cat
 rcases Nat.lt_or_ge i (1 + a.size) with h | h
 ·rw [if_pos h, if_pos h]
  rcases Nat.lt_or_ge i 1 with h1 | h1
  ·obtain rfl : i = 0 := by omega
   rw [if_pos (by omega), if_pos (by omega), hf]
   rfl
  ·rw [if_neg (by omega), if_neg (by omega)]
 ·rw [if_neg (by omega), if_neg (by omega)]
theorem bsumX_is (p v : Nat) (s : ByteArray) (f : Nat → Nat) (hf : ∀ i, i < 5 → f i = strB blockL i) (i : Nat) (hi : i < 13 + s.size) : Sha.cat 13 (numF 9 4 v (numF 5 4 p f)) (strB s) i = strB (bsumX p v s) i := by
 unfold bsumX
 rw [strB_append, strB_append, strB_append, ByteArray.size_append, ByteArray.size_append, fourT_size, fourT_size]
 show Sha.cat 13 _ _ i = if i < 5 + 4 + 4 then (if i < 5 + 4 then (if i < 5 then strB blockL i else strB (fourT p) (i - 5)) else strB (fourT v) (i - (5 + 4))) else strB s (i - (5 + 4 + 4))
 unfold Sha.cat
 rcases Nat.lt_or_ge i 13 with h | h
 ·rw [if_pos h, if_pos (by omega)]
  rcases Nat.lt_or_ge i 9 with h1 | h1
  ·rw [if_pos (by omega)]
   rcases Nat.lt_or_ge i 5 with h2 | h2
   ·rw [if_pos h2]
    unfold numF
    rw [if_pos (by omega), if_pos h2, hf i h2]
   ·rw [if_neg (by omega), fourT_at _ _ (by omega)]
    have e : numF 9 4 v (numF 5 4 p f) i = numF 5 4 p f i := by
     show (if i < 9 then numF 5 4 p f i else _) = _
     rw [if_pos h1]
    rw [e, show i = 5 + (i - 5) from by omega, four_num, show 5 + (i - 5) - 5 = i - 5 from by omega]
  ·rw [if_neg (by omega), fourT_at _ _ (by omega), show i = 9 + (i - 9) from by omega, four_num, show 9 + (i - 9) - (5 + 4) = i - 9 from by omega]
 ·rw [if_neg (by omega), if_neg (by omega)]
def gh (n : Nat) : Nat := (n + 1) / 2
def treeT (F : Nat → Lf) (o n : Nat) : ByteArray :=
 if h : n = 0 then noneT else if h1 : n = 1 then leafT (F o) else nodeT (treeT F o (gh n)) (treeT F (o + gh n) (n - gh n))
termination_by n
decreasing_by
 ·unfold gh; omega
 ·unfold gh; omega
theorem treeT_none (F : Nat → Lf) (o : Nat) : treeT F o 0 = noneT := by rw [treeT]; simp
theorem treeT_one (F : Nat → Lf) (o : Nat) : treeT F o 1 = leafT (F o) := by rw [treeT]; simp
theorem treeT_two (F : Nat → Lf) (o n : Nat) (h : 2 ≤ n) : treeT F o n = nodeT (treeT F o (gh n)) (treeT F (o + gh n) (n - gh n)) := by
 rw [treeT, dif_neg (by omega), dif_neg (by omega)]
theorem treeT_size (F : Nat → Lf) (o n : Nat) : (treeT F o n).size = 32 := by
 rw [treeT]
 split
 ·exact hashT_size _
 ·split
  ·exact hashT_size _
  ·exact hashT_size _
theorem treeT_congr {F G : Nat → Lf} {n : Nat} : ∀ {o p : Nat}, (∀ i, i < n → F (o + i) = G (p + i)) → treeT F o n = treeT G p n := by
 induction n using Nat.strongRecOn with
 | ind n ih =>
  intro o p h
  rcases (show n = 0 ∨ n = 1 ∨ 2 ≤ n by omega) with rfl | rfl | h2
  ·rw [treeT_none, treeT_none]
  ·rw [treeT_one, treeT_one]
   have := h 0 (by omega)
   rw [Nat.add_zero, Nat.add_zero] at this
   rw [this]
  ·have g1 : gh n < n := by unfold gh; omega
   have g2 : n - gh n < n := by unfold gh; omega
   rw [treeT_two _ _ _ h2, treeT_two _ _ _ h2, ih (gh n) g1 (fun i hi => h i (by omega)), ih (n - gh n) g2 (fun i hi => by
    have := h (gh n + i) (by omega)
    rwa [← Nat.add_assoc, ← Nat.add_assoc] at this)]
theorem gh_pos {n : Nat} (h : 1 ≤ n) : 1 ≤ gh n := by unfold gh; omega
theorem gh_lt {n : Nat} (h : 2 ≤ n) : gh n < n := by unfold gh; omega
end Go.Proofs.YtiamaoihachhgaaGreatDoor
namespace Go.Proofs.YtiamaoihachhgaaGreatDoor
open Go.ChangeShapes Go.WideShapes Go.ChangeAt Go.RowKit
set_option linter.unusedVariables false
theorem lit_own (w : World) (x : Nat) : (w.alloc (.cells #[.int .u8 (x : Int)] 5)).ownsRow w.heap.size 5 1 (.slice (some ⟨w.heap.size, 0, none⟩) 1 1) 1 (bv 1 (fun _ => x)) :=
 ⟨rfl, .inr ⟨w.heap.size, 1, #[.int .u8 (x : Int)], rfl, Nat.le_refl _, heap_alloc_new w _, Nat.le_refl _, by unfold maxLen; omega, rfl, rfl⟩⟩
theorem catB (n : Nat) (F : Nat → Nat) (s : ByteArray) : bv n F ++ Lib.strCells s = bv (n + s.size) (Sha.cat n F (strB s)) := by
 rw [strCells_bv, bv_append]
 rfl
theorem bvC {n : Nat} {F G : Nat → Nat} (h : ∀ i, i < n → F i = G i) : bv n F = bv n G := List.map_congr_left (fun i hi => by rw [h i (List.mem_range.1 hi)])
theorem grownB {B b : Nat} {w w' : World} (hB : B ≤ b) (hs : B ≤ w.heap.size) (h : w.grownBy w' (some b)) : Below B w w' := (Below.refl B w).grown h hs (fun k hk => by cases hk; exact hB)
set_option maxRecDepth 100000 in
set_option maxHeartbeats 2000000 in
theorem leafRoot_any (x : Lf) (hx : x.Ok) (w : World) (ht : Tabs w) :
  Calls Tryz.prog 70 #[.agg #[.int .i64 x.v, .string x.h]] w fun e w' => e = .returned (.string (leafT x)) ∧ Below w.heap.size w w' := by
 obtain ⟨i0, hi⟩ := info_parts Tryz.info8
 have HI : Hid (Tryz.prog.info? 5 = some i0 ∧ i0.zero = some (.int .u8 0) ∧ i0.size = 1 ∧ i0.bytes = 1) := hi
 obtain ⟨k, hk⟩ : ∃ k : Nat, x.v = (k : Int) := ⟨x.v.toNat, by have := hx.1.1; omega⟩
 have hs : x.h.size ≤ 100 := by have := hx.2; omega
 have HL : Hid (bv 5 (numF 1 4 k (fun _ => 0)) ++ Lib.strCells x.h = bv (5 + x.h.size) (strB (leafX x))) := by
  show _ = _
  rw [catB, show k = x.v.toNat from by omega]
  exact bvC (fun i hi => leafX_is x _ rfl i hi)
 have HH : Hid (∀ (b c : Nat) (w : World), Code8 w (some ⟨b, 0, none⟩) (5 + x.h.size) (strB (leafX x)) → Tabs w → Calls Tryz.prog 68 #[.slice (some ⟨b, 0, none⟩) (5 + x.h.size) c] w fun e w' => e = .returned (.string (leafT x)) ∧ Below w.heap.size w w') := fun b c w h ht => by
  have := hashed_any b 0 (5 + x.h.size) c (strB (leafX x)) (strB_lt _) (by omega) w h ht
  rwa [← leafX_size] at this ⊢
 obtain ⟨v, s⟩ := x
 dsimp only at hk hs HL HH ⊢
 subst hk
 generalize leafT ⟨(k : Int), s⟩ = RT at *
 generalize strB (leafX ⟨(k : Int), s⟩) = LX at *
 have AN : Hid (∀ (w : World) (g : Nat), g ≤ w.heap.size → w.ownsRow g 5 1 (.slice (some ⟨g, 0, none⟩) 1 1) 1 (bv 1 (fun _ => 0)) → Calls Tryz.prog 32 #[.slice (some ⟨g, 0, none⟩) 1 1, .int .i64 (k : Int), .int .i64 4] w fun e w' => RetO g w' e 5 (numF 1 4 k (fun _ => 0)) ∧ Below g w w') := fun w g hg h => appendNumber_any g g 1 1 k 4 (fun _ => 0) (by omega) (by omega) w hg h
 generalize numF 1 4 k (fun _ => 0) = NF at *
 have T0 : Hid (Tabs w) := ht
 have W1 : Below w.heap.size w (w.alloc (.cells #[.int .i64 (k : Int), .string s] 97)) := (Below.refl _ _).alloc (Nat.le_refl _) _
 have X1 := Box2.made w 97 (.int .i64 (k : Int)) (.string s)
 have s1 : (w.alloc (.cells #[.int .i64 (k : Int), .string s] 97)).heap.size = w.heap.size + 1 := by simp
 have O2 := lit_own (w.alloc (.cells #[.int .i64 (k : Int), .string s] 97)) 0
 rw [s1] at O2
 have W2 : Below w.heap.size w ((w.alloc (.cells #[.int .i64 (k : Int), .string s] 97)).alloc (.cells #[.int .u8 0] 5)) := W1.alloc (by rw [s1]; omega) _
 have X2 : Box2 ((w.alloc (.cells #[.int .i64 (k : Int), .string s] 97)).alloc (.cells #[.int .u8 0] 5)) w.heap.size 97 (.int .i64 (k : Int)) (.string s) := X1.alloc _
 have s2 : w.heap.size + 1 ≤ ((w.alloc (.cells #[.int .i64 (k : Int), .string s] 97)).alloc (.cells #[.int .u8 0] 5)).heap.size := by simp
 have HO2 : Hid _ := O2
 have HW2 : Hid _ := W2
 have HX2 : Hid _ := X2
 have HS2 : Hid _ := s2
 clear hi hx ht W1 X1 s1 O2 W2 X2 s2
 go_enter Tryz.func70, Tryz.ntmps70
 go_wp2_with fail
 generalize ((w.alloc (.cells #[.int .i64 (k : Int), .string s] 97)).alloc (.cells #[.int .u8 0] 5)) = v2 at *
 refine (AN.out _ _ HS2.out HO2.out).mono ?_
 rintro e v3 ⟨⟨g, c, rfl, hown⟩, hb⟩
 have X3 : Box2 v3 w.heap.size 97 (.int .i64 (k : Int)) (.string s) := Box2.ofBlock HX2.out (hb.block _ (by omega))
 have HW3 : Hid (Below w.heap.size w v3) := HW2.out.trans (hb.mono (by omega))
 have HO3 : Hid (v3.ownsRow (w.heap.size + 1) 5 1 (.slice (some ⟨g, 0, none⟩) 5 c) 5 (bv 5 NF)) := hown
 have hsz : w.heap.size + 1 ≤ v3.heap.size := Nat.le_trans HS2.out hb.size
 have hg1 : w.heap.size + 1 ≤ g := (World.ownsRow.lt hown g rfl).1
 have x0 := X3.c0
 have x1 := X3.c1
 clear hb hown HO2 HW2 HX2 HS2 X3 AN
 go_wp2_with (at_builtin; refine Lib.wpList_append_own_string _ rfl _ _ 41 9 rfl (w.heap.size + 1) 5 i0 Tryz.underlying41 Tryz.underlying9 HI.out.1 HI.out.2.1 HI.out.2.2.1 HI.out.2.2.2 (.slice (some ⟨g, 0, none⟩) 5 c) 5 _ rfl HO3.out s rfl (by unfold maxLen; omega) (by omega) hsz ?_)
 intro v4 w4 hown4 hgrow4 hnil4
 rw [HL.out] at hown4
 have W4 : Hid (Below w.heap.size w w4) := HW3.out.trans (grownB (b := g) (by omega) (by omega) hgrow4)
 obtain ⟨g4, c4, ⟨_, _⟩, rfl, ho8⟩ := own8_of_own (n := 5 + s.size) hown4 hnil4
 have K4 : Hid (Code8 w4 (some ⟨g4, 0, none⟩) (5 + s.size) LX) := ho8.code
 clear hown4 hgrow4 hnil4 ho8 HO3 HW3 hsz hg1 x0 x1 HI HL
 go_wp2_with fail
 refine (HH.out g4 c4 _ K4.out (T0.out.below W4.out)).mono ?_
 rintro e w5 ⟨rfl, hb⟩
 have W5 : Hid (Below w.heap.size w w5) := W4.out.trans (hb.mono W4.out.size)
 clear hb K4 W4 HH
 go_wp2
 go_ret
 exact ⟨rfl, W5.out⟩
set_option maxRecDepth 100000 in
set_option maxHeartbeats 2000000 in
theorem nodeRoot_any (a b : ByteArray) (ha : a.size ≤ 100) (hb : b.size ≤ 100) (w : World) (ht : Tabs w) :
  Calls Tryz.prog 71 #[.string a, .string b] w fun e w' => e = .returned (.string (nodeT a b)) ∧ Below w.heap.size w w' := by
 obtain ⟨i0, hi⟩ := info_parts Tryz.info8
 have HI : Hid (Tryz.prog.info? 5 = some i0 ∧ i0.zero = some (.int .u8 0) ∧ i0.size = 1 ∧ i0.bytes = 1) := hi
 have HL0 : Hid (bv 1 (fun _ => 1) ++ Lib.strCells a = bv (1 + a.size) (Sha.cat 1 (fun _ => 1) (strB a))) := catB _ _ _
 have HL : Hid (bv (1 + a.size) (Sha.cat 1 (fun _ => 1) (strB a)) ++ Lib.strCells b = bv (1 + a.size + b.size) (strB (nodeX a b))) := by
  show _ = _
  rw [catB]
  exact bvC (fun i hi => nodeX_is a b _ rfl i hi)
 have HH : Hid (∀ (g c : Nat) (w : World), Code8 w (some ⟨g, 0, none⟩) (1 + a.size + b.size) (strB (nodeX a b)) → Tabs w → Calls Tryz.prog 68 #[.slice (some ⟨g, 0, none⟩) (1 + a.size + b.size) c] w fun e w' => e = .returned (.string (nodeT a b)) ∧ Below w.heap.size w w') := fun g c w h ht => by
  have := hashed_any g 0 (1 + a.size + b.size) c (strB (nodeX a b)) (strB_lt _) (by omega) w h ht
  rwa [← nodeX_size] at this ⊢
 generalize nodeT a b = RT at *
 generalize strB (nodeX a b) = NX at *
 generalize Sha.cat 1 (fun _ => 1) (strB a) = C1 at *
 have T0 : Hid (Tabs w) := ht
 have O1 : Hid _ := lit_own w 1
 have W1 : Hid (Below w.heap.size w (w.alloc (.cells #[.int .u8 1] 5))) := (Below.refl _ _).alloc (Nat.le_refl _) _
 have hsz : w.heap.size ≤ (w.alloc (.cells #[.int .u8 1] 5)).heap.size := by simp
 clear hi ht
 go_enter Tryz.func71, Tryz.ntmps71
 go_wp2_with (at_builtin; refine Lib.wpList_append_own_string _ rfl _ _ 41 9 rfl w.heap.size 5 i0 Tryz.underlying41 Tryz.underlying9 HI.out.1 HI.out.2.1 HI.out.2.2.1 HI.out.2.2.2 (.slice (some ⟨w.heap.size, 0, none⟩) 1 1) 1 _ rfl O1.out a rfl (by unfold maxLen; omega) (by omega) hsz ?_)
 intro v2 w2 hown2 hgrow2 hnil2
 rw [HL0.out] at hown2
 have W2 : Hid (Below w.heap.size w w2) := W1.out.trans (grownB (b := w.heap.size) (by omega) (by omega) hgrow2)
 have hsz2 : w.heap.size ≤ w2.heap.size := W2.out.size
 obtain ⟨g2, c2, ⟨hg2, _⟩, rfl, _⟩ := own8_of_own (n := 1 + a.size) hown2 hnil2
 have O2 : Hid _ := hown2
 clear hown2 hgrow2 hnil2 O1 W1 hsz HL0
 go_wp2_with (at_builtin; refine Lib.wpList_append_own_string _ rfl _ _ 41 9 rfl w.heap.size 5 i0 Tryz.underlying41 Tryz.underlying9 HI.out.1 HI.out.2.1 HI.out.2.2.1 HI.out.2.2.2 (.slice (some ⟨g2, 0, none⟩) (1 + a.size) c2) (1 + a.size) _ rfl O2.out b rfl (by unfold maxLen; omega) (by omega) hsz2 ?_)
 intro v3 w3 hown3 hgrow3 hnil3
 rw [HL.out] at hown3
 have W3 : Hid (Below w.heap.size w w3) := W2.out.trans (grownB (b := g2) (World.ownsRow.lt O2.out g2 rfl).1 hsz2 hgrow3)
 obtain ⟨g3, c3, ⟨_, _⟩, rfl, ho8⟩ := own8_of_own (n := 1 + a.size + b.size) hown3 hnil3
 have K3 : Hid (Code8 w3 (some ⟨g3, 0, none⟩) (1 + a.size + b.size) NX) := ho8.code
 clear hown3 hgrow3 hnil3 ho8 O2 W2 hsz2 hg2 HI HL
 go_wp2_with fail
 refine (HH.out g3 c3 _ K3.out (T0.out.below W3.out)).mono ?_
 rintro e w5 ⟨rfl, hb⟩
 have W5 : Hid (Below w.heap.size w w5) := W3.out.trans (hb.mono W3.out.size)
 clear hb K3 W3 HH
 go_wp2
 go_ret
 exact ⟨rfl, W5.out⟩
theorem greaterHalf_any (n : Nat) (hn : n ≤ 1000) (w : World) : Calls Tryz.prog 116 #[.int .i64 (n : Int)] w fun e w' => e = .returned (.int .i64 ((gh n : Nat) : Int)) ∧ w = w' := by
 have e2 : ((n : Int) + 1) / 2 = ((gh n : Nat) : Int) := by unfold gh; omega
 have HG : Hid (((n : Int) + 1) / 2 = ((gh n : Nat) : Int)) := e2
 generalize gh n = G at *
 clear e2
 go_enter Tryz.func116, Tryz.ntmps116
 go_wp2
 go_ret
 exact ⟨by rw [← HG.out]; rfl, rfl⟩
theorem leaf_elem : Tryz.prog.elem 85 = 97 := by kernel_rfl
theorem leaf_under : Tryz.prog.underlying 85 = some (.slice (Tryz.prog.elem 85)) := by rw [leaf_elem]; exact Tryz.underlying85
theorem leaf_sizeOf (w : World) : (sizeOf (Tryz.prog.elem 85)).run Tryz.prog w = .ok 2 w := by
 obtain ⟨i, hi, hz, hsz, hby⟩ := info_parts Tryz.infoLf
 simp [sizeOf, typeInfo, leaf_elem, hi, hsz]
set_option maxRecDepth 100000 in
set_option maxHeartbeats 4000000 in
theorem folded_any (n : Nat) : ∀ (b off c : Nat) (LF : Nat → Lf), 1 ≤ n → n ≤ 32 → n ≤ c → c ≤ maxLen → (∀ i, i < n → (LF i).Ok) → ∀ w : World, Els w 2 (some ⟨b, off, none⟩) n (lfF LF) → Tabs w →
  Calls Tryz.prog 69 #[.slice (some ⟨b, off, none⟩) n c, .func (.func 70) #[] #[], .func (.func 71) #[] #[]] w fun e w' => e = .returned (.string (treeT LF 0 n)) ∧ Below w.heap.size w w' := by
 induction n using Nat.strongRecOn with
 | ind n ih =>
  intro b off c LF h1 h32 hc hcm hok w h ht
  rcases (show n = 1 ∨ 2 ≤ n by omega) with rfl | h2
  ·rw [treeT_one]
   have LR : Hid (Calls Tryz.prog 70 #[.agg #[.int .i64 (LF 0).v, .string (LF 0).h]] w fun e w' => e = .returned (.string (leafT (LF 0))) ∧ Below w.heap.size w w') := leafRoot_any _ (hok 0 (by omega)) w ht
   obtain ⟨b', off', e, hcc⟩ := h 0 (by omega)
   cases e
   have c0 := hcc 0 (by omega)
   have c1 := hcc 1 (by omega)
   simp only [lfF, lfV, Nat.zero_mul, Nat.add_zero] at c0 c1
   generalize leafT (LF 0) = RT at *
   clear h hok ht hcc ih
   go_enter Tryz.func69, Tryz.ntmps69
   go_wp2_with fail
   refine LR.out.mono ?_
   rintro e w1 ⟨rfl, hb⟩
   have B1 : Hid (Below w.heap.size w w1) := hb
   clear hb LR c0 c1
   go_wp2
   go_ret
   exact ⟨rfl, B1.out⟩
  ·have g1 := gh_lt h2
   have g0 := gh_pos (n := n) (by omega)
   have SP : SlP (some ⟨b, off, none⟩) n c := ⟨(fun e => by cases e), .inr ⟨b, off, rfl⟩, hc, hcm⟩
   obtain ⟨k, hk⟩ : ∃ k, k = gh n := ⟨_, rfl⟩
   have CT := run_cut_to (P := Tryz.prog) 85 leaf_under 2 leaf_sizeOf SP k (by omega)
   have CF := run_cut_from (P := Tryz.prog) 85 leaf_under 2 leaf_sizeOf SP k (by omega)
   have hcut : cutA (some ⟨b, off, none⟩) c k 2 = some ⟨b, off + k * 2, none⟩ := by
    unfold cutA
    rw [if_neg (by omega)]
    exact congrArg some (Go.WideShapes.add_plain ..)
   rw [hcut] at CF
   have GH : Hid (∀ w : World, Calls Tryz.prog 116 #[.int .i64 (n : Int)] w fun e w' => e = .returned (.int .i64 (k : Int)) ∧ w = w') := fun w => by rw [hk]; exact greaterHalf_any n (by omega) w
   have F1 : Hid (∀ w : World, Els w 2 (some ⟨b, off, none⟩) n (lfF LF) → Tabs w → Calls Tryz.prog 69 #[.slice (some ⟨b, off, none⟩) k c, .func (.func 70) #[] #[], .func (.func 71) #[] #[]] w fun e w' => e = .returned (.string (treeT LF 0 k)) ∧ Below w.heap.size w w') := fun w h ht => ih k (by omega) b off c LF (by omega) (by omega) (by omega) hcm (fun i hi => hok i (by omega)) w (h.less (by omega)) ht
   have F2 : Hid (∀ w : World, Els w 2 (some ⟨b, off, none⟩) n (lfF LF) → Tabs w → Calls Tryz.prog 69 #[.slice (some ⟨b, off + k * 2, none⟩) (n - k) (c - k), .func (.func 70) #[] #[], .func (.func 71) #[] #[]] w fun e w' => e = .returned (.string (treeT LF k (n - k))) ∧ Below w.heap.size w w') := fun w h ht => by
    have := ih (n - k) (by omega) b (off + k * 2) (c - k) (fun i => LF (k + i)) (by omega) (by omega) (by omega) (by omega) (fun i hi => hok _ (by omega)) w (h.behind k (by omega)) ht
    rwa [treeT_congr (F := fun i => LF (k + i)) (G := LF) (o := 0) (p := k) (fun i hi => by rw [Nat.zero_add])] at this
   have NR : Hid (∀ w : World, Tabs w → Calls Tryz.prog 71 #[.string (treeT LF 0 k), .string (treeT LF k (n - k))] w fun e w' => e = .returned (.string (treeT LF 0 n)) ∧ Below w.heap.size w w') := fun w ht => by
    have := nodeRoot_any (treeT LF 0 k) (treeT LF k (n - k)) (by rw [treeT_size]; omega) (by rw [treeT_size]; omega) w ht
    rw [hk] at this ⊢
    rw [treeT_two _ _ _ h2, Nat.zero_add]
    exact this
   generalize treeT LF 0 n = RT at *
   generalize treeT LF 0 k = R1 at *
   generalize treeT LF k (n - k) = R2 at *
   have HT : Hid (Tabs w) := ht
   have HE : Hid (Els w 2 (some ⟨b, off, none⟩) n (lfF LF)) := h
   have ne : ((n : Int) == 1) = false := by simp; omega
   have dk : ((n : Int) - (k : Int)).toNat = n - k := by omega
   have CT' : Hid _ := CT
   have CF' : Hid _ := CF
   clear h ht hok ih hcut SP hk g1 g0 CT CF
   go_enter Tryz.func69, Tryz.ntmps69
   go_wp2_with fail
   refine (GH.out _).mono ?_
   rintro e w1 ⟨rfl, rfl⟩
   go_upto_region 4 with fail
   have H : Below w.heap.size w w.drew := (Below.refl _ _).drew
   refine wp_region_noPanic ?_
   refine wp_region_held_drew (S := fun w' => Below w.heap.size w w') (by kernel_rfl) H (fun _ => ?_)
   generalize w.drew = x0 at *
   refine tkH (i := 0) (v := .func (.func 71) #[] #[]) rfl (by kernel_rfl) (by rfl) ?_ H ?_
   ·intro w' hSw; go_simp
   refine ch33 ?_
   refine tkH (i := 1) (v := .slice (some ⟨b, off, none⟩) n c) rfl (by kernel_rfl) (by rfl) ?_ H ?_
   ·intro w' hSw; go_simp
   refine ch33 ?_
   refine tkH (i := 2) (v := .int .i64 (k : Int)) rfl (by kernel_rfl) (by rfl) ?_ H ?_
   ·intro w' hSw; go_simp
   refine ch33 ?_
   refine tkH (i := 3) (v := .slice (some ⟨b, off, none⟩) k c) rfl (by kernel_rfl) (by rfl) ?_ H ?_
   ·intro w' hSw; have CC := CT'.out; go_simp
   refine ch33 ?_
   refine tkH (i := 4) (v := .func (.func 70) #[] #[]) rfl (by kernel_rfl) (by rfl) ?_ H ?_
   ·intro w' hSw; go_simp
   refine ch33 ?_
   refine tkH (i := 5) (v := .func (.func 71) #[] #[]) rfl (by kernel_rfl) (by rfl) ?_ H ?_
   ·intro w' hSw; go_simp
   refine ch33 ?_
   refine tkH (i := 7) (v := .slice (some ⟨b, off, none⟩) n c) rfl (by kernel_rfl) (by rfl) ?_ H ?_
   ·intro w' hSw; go_simp
   refine ch33 ?_
   refine tkH (i := 8) (v := .int .i64 (k : Int)) rfl (by kernel_rfl) (by rfl) ?_ H ?_
   ·intro w' hSw; go_simp
   refine ch33 ?_
   refine tkH (i := 9) (v := .slice (some ⟨b, off + k * 2, none⟩) (n - k) (c - k)) rfl (by kernel_rfl) (by rfl) ?_ H ?_
   ·intro w' hSw; have CC := CF'.out; go_simp
   refine ch33 ?_
   refine tkH (i := 10) (v := .func (.func 70) #[] #[]) rfl (by kernel_rfl) (by rfl) ?_ H ?_
   ·intro w' hSw; go_simp
   refine ch33 ?_
   refine tkH (i := 11) (v := .func (.func 71) #[] #[]) rfl (by kernel_rfl) (by rfl) ?_ H ?_
   ·intro w' hSw; go_simp
   refine ch33 ?_
   refine wpAnyH_ready (rs := [6]) (by kernel_rfl) (by simp) ?_
   refine AllReadyH.cons rfl (fun KK hK => ?_) AllReadyH.nil
   go_simp
   refine (F1.out _ (HE.out.below H) (HT.out.below H)).mono ?_
   rintro e x1 ⟨rfl, hb⟩
   replace H : Below w.heap.size w x1 := H.trans (hb.mono H.size)
   clear hb
   refine hK.out _ _ H (fun _ => ?_)
   clear hK KK
   refine ch33 ?_
   refine wpAnyH_ready (rs := [12]) (by kernel_rfl) (by simp) ?_
   refine AllReadyH.cons rfl (fun KK hK => ?_) AllReadyH.nil
   go_simp
   refine (F2.out _ (HE.out.below H) (HT.out.below H)).mono ?_
   rintro e x2 ⟨rfl, hb⟩
   replace H : Below w.heap.size w x2 := H.trans (hb.mono H.size)
   clear hb
   refine hK.out _ _ H (fun _ => ?_)
   clear hK KK
   refine ch33 ?_
   refine wpAnyH_ready (rs := [13]) (by kernel_rfl) (by simp) ?_
   refine AllReadyH.cons rfl (fun KK hK => ?_) AllReadyH.nil
   go_simp
   refine (NR.out _ (HT.out.below H)).mono ?_
   rintro e x3 ⟨rfl, hb⟩
   replace H : Below w.heap.size w x3 := H.trans (hb.mono H.size)
   clear hb
   refine hK.out _ _ H (fun _ => ?_)
   clear hK KK
   refine ch33 ?_
   refine tkH (i := 14) (v := .string RT) rfl (by kernel_rfl) (by rfl) ?_ H ?_
   ·intro w' hSw; go_simp
   refine ch33 ?_
   refine wpAnyH_done (by kernel_rfl) ?_ _
   refine NoPanic.normal ?_
   have B1 : Hid (Below w.heap.size w x3) := H
   clear H HE HT F1 F2 NR GH CT' CF' ne dk
   go_wp2
   go_ret
   exact ⟨rfl, B1.out⟩
set_option maxRecDepth 100000 in
theorem rootOver_any (a : Option Addr) (n c : Nat) (LF : Nat → Lf) (h32 : n ≤ 32) (hc : n ≤ c) (hcm : c ≤ maxLen) (hok : ∀ i, i < n → (LF i).Ok) (w : World) (h : Els w 2 a n (lfF LF)) (ht : Tabs w) :
  Calls Tryz.prog 40 #[.slice a n c] w fun e w' => e = .returned (.string (treeT LF 0 n)) ∧ Below w.heap.size w w' := by
 rcases Nat.eq_zero_or_pos n with rfl | hp
 ·rw [treeT_none]
  have HH : Hid (∀ (b : Nat) (w : World), Code8 w (some ⟨b, 0, none⟩) 1 (fun _ => 2) → Tabs w → Calls Tryz.prog 68 #[.slice (some ⟨b, 0, none⟩) 1 1] w fun e w' => e = .returned (.string noneT) ∧ Below w.heap.size w w') := fun b w h ht => by
   have h' : Code8 w (some ⟨b, 0, none⟩) 1 (strB ⟨#[2]⟩) := fun i hi => by
    obtain rfl : i = 0 := by omega
    exact h 0 (by omega)
   exact hashed_any _ 0 1 1 (strB ⟨#[2]⟩) (strB_lt _) (by omega) w h' ht
  have K : Hid (Code8 (w.alloc (.cells #[.int .u8 2] 5)) (some ⟨w.heap.size, 0, none⟩) 1 (fun _ => 2)) := code8_of (fun i hi => by
   obtain rfl : i = 0 := by omega
   simp)
  have HB : Hid (Below w.heap.size w (w.alloc (.cells #[.int .u8 2] 5))) := (Below.refl _ _).alloc (Nat.le_refl _) _
  have HT : Hid (Tabs (w.alloc (.cells #[.int .u8 2] 5))) := ht.below HB.out
  have HC := HH.out _ _ K.out HT.out
  have HC' : Hid _ := HC
  generalize noneT = RT at *
  clear HH h ht hok K HT HC
  go_enter Tryz.func40, Tryz.ntmps40
  go_wp2_with fail
  refine Calls.mono HC'.out ?_
  rintro e w1 ⟨rfl, hb⟩
  have B1 : Hid (Below w.heap.size w w1) := HB.out.trans (hb.mono HB.out.size)
  clear hb HC' HB
  go_wp2
  go_ret
  exact ⟨rfl, B1.out⟩
 ·obtain ⟨b, off, rfl, _⟩ := h.opened hp
  have FD : Hid (Calls Tryz.prog 69 #[.slice (some ⟨b, off, none⟩) n c, .func (.func 70) #[] #[], .func (.func 71) #[] #[]] w fun e w' => e = .returned (.string (treeT LF 0 n)) ∧ Below w.heap.size w w') := folded_any n b off c LF (by omega) h32 hc hcm hok w h ht
  have ne : ((n : Int) == 0) = false := by simp; omega
  generalize treeT LF 0 n = RT at *
  clear h ht hok
  go_enter Tryz.func40, Tryz.ntmps40
  go_wp2_with fail
  refine FD.out.mono ?_
  rintro e w1 ⟨rfl, hb⟩
  have B1 : Hid (Below w.heap.size w w1) := hb
  clear hb FD
  go_wp2
  go_ret
  exact ⟨rfl, B1.out⟩
end Go.Proofs.YtiamaoihachhgaaGreatDoor
