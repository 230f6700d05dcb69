/-
  Texts of the proof, joined: TxtA, Txt, Els, EOg, Rdr, RetCell, PlaceS, RowPc, InAny, ImgM, Box3, AnyH, InsJ, SupM, SupTo.
-/
import Derived.Test.YtkmakpbphdjbcaaGreatDoorQ04
import Derived.Laws.BytesArg
import Derived.OwnWalk
import Derived.Laws.OwnMore
import Derived.Test.YtkmakpbphdjbcaaGreatDoorQ06
import Derived.Test.YtkmakpbphdjbcaaGreatDoorQ07
import Derived.Test.YtkmakpbphdjbcaaGreatDoorQ02
import Derived.Maps.AppendAt
import Derived.Test.YtkmakpbphdjbcaaGreatDoorQ05
import Derived.Laws.ResultCell
import Derived.Deep.RegionWith
import Derived.Lib.SliceRun
import Derived.Lib.AppendZeros
import Derived.Test.YtkmakpbphdjbcaaGreatDoorRows
import Derived.WalkKit
import Derived.ProofKit
import Derived.Below
import Derived.WalkSmall
import Derived.Deep.RegionHeld3
import Derived.Deep.RegionHeldLaw
namespace Go.Proofs.YtkmakpbphdjbcaaGreatDoor
open Go.ChangeShapes Go.WideShapes Go.RowKit
def strB (s : ByteArray) (j : Nat) : Nat := if h : j < s.size then s[j].toNat else 0
theorem strB_eq (s : ByteArray) (i : Nat) (h : i < s.size) : (s[i].toNat : Int) = (strB s i : Nat) := by simp [strB, h]
theorem strB_lt (s : ByteArray) (j : Nat) : strB s j < 256 := by
  unfold strB
  split
  · exact UInt8.toNat_lt _
  · omega
def kstr (K : Nat → Nat) (o n : Nat) : ByteArray := strOfNums ((List.range n).map fun i => ((K (o + i) : Nat) : Int))
theorem kstr_size (K : Nat → Nat) (o n : Nat) : (kstr K o n).size = n := by rw [kstr, strOfNums_size]; simp
theorem ba_ext {a b : ByteArray} (h : a.data.toList = b.data.toList) : a = b := by
  cases a with | mk a => cases b with | mk b => congr 1; exact Array.toList_inj.1 h
theorem kstr_data (K : Nat → Nat) (o n : Nat) : (kstr K o n).data.toList = (List.range n).map fun i => UInt8.ofNat (K (o + i)) := by
  rw [kstr, strOfNums_data, List.map_map]; rfl
theorem kstr_congr {K L : Nat → Nat} {o p n : Nat} (h : ∀ i, i < n → K (o + i) = L (p + i)) : kstr K o n = kstr L p n := by
  apply ba_ext
  rw [kstr_data, kstr_data]
  exact List.map_congr_left (fun i hi => by rw [h i (List.mem_range.1 hi)])
theorem kstr_append (K : Nat → Nat) (o a b : Nat) : kstr K o a ++ kstr K (o + a) b = kstr K o (a + b) := by
  apply ba_ext
  rw [ByteArray.data_append, Array.toList_append, kstr_data, kstr_data, kstr_data, List.range_add, List.map_append, List.map_map]
  congr 1
  exact List.map_congr_left (fun i _ => by simp [Nat.add_assoc])
theorem ba_get (s : ByteArray) (i : Nat) (h : i < s.size) : s[i] = s.data.toList[i]'(by simpa using h) := by
  simp [ByteArray.getElem_eq_getElem_data]
theorem kstr_get (K : Nat → Nat) (o n i : Nat) (hK : K (o + i) < 256) (h : i < (kstr K o n).size) : ((kstr K o n)[i].toNat : Int) = (K (o + i) : Nat) := by
  rw [ba_get]
  have hi : i < n := by rwa [kstr_size] at h
  have : (kstr K o n).data.toList[i]'(by simpa using h) = UInt8.ofNat (K (o + i)) := by
    rw [List.getElem_of_eq (kstr_data K o n)]; simp
  rw [this, UInt8.toNat_ofNat']
  rw [Nat.mod_eq_of_lt (by simpa using hK)]
theorem strB_kstr (K : Nat → Nat) (o n i : Nat) (hK : K (o + i) < 256) (h : i < n) : strB (kstr K o n) i = K (o + i) := by
  have hs : i < (kstr K o n).size := by rw [kstr_size]; exact h
  have := kstr_get K o n i hK hs
  unfold strB
  rw [dif_pos hs]
  omega
theorem strB_get (s : ByteArray) (i : Nat) (h : i < s.size) : UInt8.ofNat (strB s i) = s.data.toList[i]'(by simpa using h) := by
  unfold strB
  rw [dif_pos h, ← ba_get s i h]
  simp
theorem kstr_self (s : ByteArray) : kstr (strB s) 0 s.size = s := by
  apply ba_ext
  rw [kstr_data]
  apply List.ext_getElem
  · simp
  · intro i h1 h2
    rw [List.getElem_map, List.getElem_range, Nat.zero_add]
    exact strB_get s i (by simpa using h2)
theorem kstr_extract (s : ByteArray) (o n : Nat) (h : o + n ≤ s.size) : s.extract o (o + n) = kstr (strB s) o n := by
  apply ba_ext
  rw [kstr_data, ByteArray.data_extract]
  apply List.ext_getElem
  · simp; omega
  · intro i h1 h2
    have hi : i < n := by simpa using h2
    rw [List.getElem_map, List.getElem_range, strB_get s (o + i) (by omega)]
    simp
theorem strB_list (s : ByteArray) (j : Nat) : strB s j = ((s.data.toList[j]?).getD 0).toNat := by
  unfold strB
  by_cases h : j < s.size
  · rw [dif_pos h]
    have h' : j < s.data.toList.length := by simpa using h
    rw [List.getElem?_eq_getElem h', Option.getD_some, ← ba_get s j h]
  · rw [dif_neg h]
    have h' : s.data.toList.length ≤ j := by
      have : s.data.toList.length = s.size := by simp
      omega
    rw [List.getElem?_eq_none h']
    rfl
theorem strB_append (s t : ByteArray) (j : Nat) : strB (s ++ t) j = if j < s.size then strB s j else strB t (j - s.size) := by
  have hl : s.data.toList.length = s.size := by simp
  rw [strB_list, strB_list, strB_list, ByteArray.data_append, Array.toList_append]
  by_cases h : j < s.size
  · rw [if_pos h, List.getElem?_append_left (by omega)]
  · rw [if_neg h, List.getElem?_append_right (by omega), hl]
theorem own_mono {w : World} {base base' : Nat} {e : TypeId} {size : Nat} {v : Value} {n : Nat} {xs : List Value} (h : w.ownsRow base e size v n xs) (hb : base' ≤ base) : w.ownsRow base' e size v n xs := by
  obtain ⟨hl, h0 | ⟨g, cap, cur, hv, h1, h2⟩⟩ := h
  · exact ⟨hl, .inl h0⟩
  · exact ⟨hl, .inr ⟨g, cap, cur, hv, Nat.le_trans hb h1, h2⟩⟩
end Go.Proofs.YtkmakpbphdjbcaaGreatDoor
namespace Go.Proofs.YtkmakpbphdjbcaaGreatDoor
open Go.ChangeShapes Go.WideShapes Go.ChangeAt Go.RowKit
theorem kstr_of_code {w : World} {b o n c : Nat} {f : Nat → Nat} (h : Code8 w (some ⟨b, o, none⟩) n f) : (convert 22 9 (.slice (some ⟨b, o, none⟩) n c)).run Tryz.prog w = .ok (.string (kstr f 0 n)) w := by
  refine run_convert_bytes_arg w 22 5 Tryz.underlying22 Tryz.underlying5 b o n c ((List.range n).map fun i => ((f (0 + i) : Nat) : Int)) (by simp) (fun i hi => ?_) 9 Tryz.underlying9
  rw [h.at hi]
  simp [hi]
end Go.Proofs.YtkmakpbphdjbcaaGreatDoor
namespace Go.Proofs.YtkmakpbphdjbcaaGreatDoor
open Go.ChangeShapes Go.WideShapes Go.ChangeAt Go.RowKit
def Els (w : World) (s : Nat) (a : Option Addr) (n : Nat) (F : Nat → Nat → Value) : Prop := ∀ i, i < n → ∃ b off, a = some ⟨b, off, none⟩ ∧ ∀ j, j < s → w.cell? ⟨b, off + i * s + j, none⟩ = some (F i j)
theorem Els.opened {w : World} {s : Nat} {a : Option Addr} {n : Nat} {F : Nat → Nat → Value} (h : Els w s a n F) (hn : 0 < n) :
    ∃ b off, a = some ⟨b, off, none⟩ ∧ ∀ i, i < n → ∀ j, j < s → w.cell? ⟨b, off + i * s + j, none⟩ = some (F i j) := by
  obtain ⟨b, off, rfl, _⟩ := h 0 hn
  refine ⟨b, off, rfl, fun i hi => ?_⟩
  obtain ⟨b', off', hab, hc⟩ := h i hi
  cases hab
  exact hc
theorem Els.below {w w' : World} {s : Nat} {a : Option Addr} {n : Nat} {F : Nat → Nat → Value} (h : Els w s a n F) (hb : Below w.heap.size w w') : Els w' s a n F := fun i hi => by
  obtain ⟨b, off, ha, hc⟩ := h i hi
  exact ⟨b, off, ha, fun j hj => by rw [hb.cell (strBlock (hc j hj))]; exact hc j hj⟩
theorem Els.congr {w : World} {s : Nat} {a : Option Addr} {n : Nat} {F G : Nat → Nat → Value} (h : Els w s a n F) (e : ∀ i, i < n → ∀ j, j < s → F i j = G i j) : Els w s a n G := fun i hi => by
  obtain ⟨b, off, ha, hc⟩ := h i hi
  exact ⟨b, off, ha, fun j hj => by rw [← e i hi j hj]; exact hc j hj⟩
theorem Els.less {w : World} {s : Nat} {a : Option Addr} {n m : Nat} {F : Nat → Nat → Value} (h : Els w s a n F) (hm : m ≤ n) : Els w s a m F := fun i hi => h i (by omega)
structure RowE (w : World) (s : Nat) (a : Option Addr) (g n : Nat) (F : Nat → Nat → Value) : Prop where
  a : 0 < n → a = some ⟨g, 0, none⟩
  c : ∀ i, i < n → ∀ j, j < s → w.cell? ⟨g, i * s + j, none⟩ = some (F i j)
  z : ∀ i, i < n * s → w.frozen? ⟨g, i, none⟩ = false
theorem cellE {w w' : World} {g i : Nat} (e : w'.heap[g]? = w.heap[g]?) : w'.cell? ⟨g, i, none⟩ = w.cell? ⟨g, i, none⟩ := by simp [World.cell?, e]
theorem frozenE {w w' : World} {g i : Nat} (e : w'.heap[g]? = w.heap[g]?) : w'.frozen? ⟨g, i, none⟩ = w.frozen? ⟨g, i, none⟩ := by simp [World.frozen?, e]
theorem posE {n s : Nat} {i : Nat} (h : i < n * s) : 0 < n := by
  rcases Nat.eq_zero_or_pos n with rfl | q
  · omega
  · exact q
theorem RowE.els {w : World} {s : Nat} {a : Option Addr} {g n : Nat} {F : Nat → Nat → Value} (h : RowE w s a g n F) : Els w s a n F := fun i hi => ⟨g, 0, h.a (by omega), fun j hj => by rw [Nat.zero_add]; exact h.c i hi j hj⟩
theorem RowE.nil (w : World) (s : Nat) (a : Option Addr) (g : Nat) (F : Nat → Nat → Value) : RowE w s a g 0 F := ⟨fun h => absurd h (by omega), fun i hi => absurd hi (by omega), fun i hi => absurd (posE hi) (by omega)⟩
theorem divE {s i j : Nat} (hj : j < s) : (i * s + j) / s = i ∧ (i * s + j) % s = j := by
  have hs : 0 < s := by omega
  constructor
  · rw [Nat.mul_comm, Nat.mul_add_div hs, Nat.div_eq_of_lt hj, Nat.add_zero]
  · rw [Nat.mul_comm, Nat.mul_add_mod, Nat.mod_eq_of_lt hj]
theorem ltE {s i j n : Nat} (hi : i < n) (hj : j < s) : i * s + j < n * s := by
  have : (i + 1) * s ≤ n * s := Nat.mul_le_mul_right s hi
  rw [Nat.add_mul, Nat.one_mul] at this
  omega
def Box2 (w : World) (b : Nat) (t : TypeId) (x y : Value) : Prop := w.rowIs b t 2 (fun i => if i = 0 then x else y)
theorem Box2.c0 {w : World} {b : Nat} {t : TypeId} {x y : Value} (h : Box2 w b t x y) : w.cell? ⟨b, 0, none⟩ = some x := World.rowIs.cell h (i := 0) (by omega)
theorem Box2.c1 {w : World} {b : Nat} {t : TypeId} {x y : Value} (h : Box2 w b t x y) : w.cell? ⟨b, 1, none⟩ = some y := World.rowIs.cell h (i := 1) (by omega)
theorem Box2.fr {w : World} {b : Nat} {t : TypeId} {x y : Value} (h : Box2 w b t x y) (i : Nat) : w.frozen? ⟨b, i, none⟩ = false := World.rowIs.frozen h i
theorem Box2.lt {w : World} {b : Nat} {t : TypeId} {x y : Value} (h : Box2 w b t x y) : b < w.heap.size := World.rowIs.lt h
theorem Box2.ofBlock {w w' : World} {b : Nat} {t : TypeId} {x y : Value} (h : Box2 w b t x y) (e : w'.heap[b]? = w.heap[b]?) : Box2 w' b t x y := World.rowIs.of_block h e
theorem Box2.below {w w' : World} {b : Nat} {t : TypeId} {x y : Value} (h : Box2 w b t x y) (hb : Below w.heap.size w w') : Box2 w' b t x y := h.ofBlock (hb.block b h.lt)
theorem Box2.made (w : World) (t : TypeId) (x y : Value) : Box2 (w.alloc (.cells #[x, y] t)) w.heap.size t x y := World.rowIs_alloc w #[x, y] t _ (fun i hi => by
  rcases (show i = 0 ∨ i = 1 by simp at hi; omega) with rfl | rfl <;> rfl)
theorem Box2.madeAt {w : World} {b : Nat} (hb : w.heap.size = b) (t : TypeId) (x y : Value) : Box2 (w.alloc (.cells #[x, y] t)) b t x y := by subst hb; exact Box2.made w t x y
theorem Box2.alloc {w : World} {b : Nat} {t : TypeId} {x y : Value} (h : Box2 w b t x y) (o : Obj) : Box2 (w.alloc o) b t x y := World.rowIs.alloc h o
theorem Box2.set0 {w : World} {b : Nat} {t : TypeId} {x y : Value} (h : Box2 w b t x y) (v : Value) : Box2 (w.setCell ⟨b, 0, none⟩ v) b t v y := World.rowIs.congr (World.rowIs.set h 0 v) (fun i hi => by
  rcases (show i = 0 ∨ i = 1 by omega) with rfl | rfl <;> rfl)
theorem Box2.set1 {w : World} {b : Nat} {t : TypeId} {x y : Value} (h : Box2 w b t x y) (v : Value) : Box2 (w.setCell ⟨b, 1, none⟩ v) b t x v := World.rowIs.congr (World.rowIs.set h 1 v) (fun i hi => by
  rcases (show i = 0 ∨ i = 1 by omega) with rfl | rfl <;> rfl)
end Go.Proofs.YtkmakpbphdjbcaaGreatDoor
namespace Go.Proofs.YtkmakpbphdjbcaaGreatDoor
open Go.ChangeShapes Go.WideShapes Go.ChangeAt Go.RowKit
set_option linter.unusedVariables false
def elv (s n : Nat) (F : Nat → Nat → Value) : List Value := (List.range (n * s)).map fun i => F (i / s) (i % s)
theorem elv_length (s n : Nat) (F : Nat → Nat → Value) : (elv s n F).length = n * s := by unfold elv; simp
theorem elv_congr {s n : Nat} {F G : Nat → Nat → Value} (h : ∀ i, i < n → ∀ j, j < s → F i j = G i j) : elv s n F = elv s n G := List.map_congr_left (fun i hi => by
  have hi' := List.mem_range.1 hi
  have hs : 0 < s := by
    rcases Nat.eq_zero_or_pos s with rfl | q
    · omega
    · exact q
  exact h _ ((Nat.div_lt_iff_lt_mul hs).2 hi') _ (Nat.mod_lt _ hs))
theorem elv_snoc (s n : Nat) (F : Nat → Nat → Value) : elv s (n + 1) F = elv s n F ++ (List.range s).map (F n) := by
  unfold elv
  rw [Nat.add_mul, Nat.one_mul, List.range_add, List.map_append, List.map_map]
  congr 1
  exact List.map_congr_left (fun j hj => by
    have hj' := List.mem_range.1 hj
    show F ((n * s + j) / s) ((n * s + j) % s) = F n j
    rw [(divE hj').1, (divE hj').2])
def EO (w : World) (B : Nat) (t : TypeId) (s : Nat) (v : Value) (n : Nat) (F : Nat → Nat → Value) : Prop := w.ownsRow B t s v n (elv s n F)
theorem EO.nil (w : World) (B : Nat) (t : TypeId) (s : Nat) (F : Nat → Nat → Value) : EO w B t s (.slice none 0 0) 0 F := ⟨by rw [elv_length], .inl ⟨rfl, rfl⟩⟩
theorem EO.form {w : World} {B : Nat} {t : TypeId} {s : Nat} {v : Value} {n : Nat} {F : Nat → Nat → Value} (h : EO w B t s v n F) : ∃ a c, v = .slice a n c := by
  obtain ⟨hl, ⟨h1, h2⟩ | ⟨g', cap, cur, hv, _⟩⟩ := h
  · subst h2; exact ⟨_, _, h1⟩
  · exact ⟨_, _, hv⟩
theorem EO.congr {w : World} {B : Nat} {t : TypeId} {s : Nat} {v : Value} {n : Nat} {F G : Nat → Nat → Value} (h : EO w B t s v n F) (e : ∀ i, i < n → ∀ j, j < s → F i j = G i j) : EO w B t s v n G := by unfold EO at *; rw [← elv_congr e]; exact h
theorem EO.ge {w : World} {B : Nat} {t : TypeId} {s : Nat} {v : Value} {n : Nat} {F : Nat → Nat → Value} (h : EO w B t s v n F) (g : Nat) (e : v.ownBlock = some g) : B ≤ g ∧ g < w.heap.size := World.ownsRow.lt h g e
theorem EO.keep {w w' : World} {B : Nat} {t : TypeId} {s : Nat} {v : Value} {n : Nat} {F : Nat → Nat → Value} (h : EO w B t s v n F) (e : ∀ g, v.ownBlock = some g → w'.heap[g]? = w.heap[g]?) : EO w' B t s v n F := by
  obtain ⟨hl, h0 | ⟨g', cap, cur, hv, hB, hh, hr⟩⟩ := h
  · exact ⟨hl, .inl h0⟩
  · subst hv
    exact ⟨hl, .inr ⟨g', cap, cur, rfl, hB, by rw [e g' rfl]; exact hh, hr⟩⟩
theorem EO.below {w w' : World} {B : Nat} {t : TypeId} {s : Nat} {v : Value} {n : Nat} {F : Nat → Nat → Value} (h : EO w B t s v n F) (hb : Below w.heap.size w w') : EO w' B t s v n F := h.keep (fun g e => hb.block g (h.ge g e).2)
theorem EO.onlyB {w w' : World} {B q : Nat} {t : TypeId} {s : Nat} {v : Value} {n : Nat} {F : Nat → Nat → Value} (h : EO w B t s v n F) (ho : OnlyB q w w') (hq : q < B) : EO w' B t s v n F := h.keep (fun g e => ho.block g (h.ge g e).2 (by have := (h.ge g e).1; omega))
theorem EO.rowE {w : World} {B : Nat} {t : TypeId} {s : Nat} {a : Option Addr} {n c : Nat} {F : Nat → Nat → Value} (h : EO w B t s (.slice a n c) n F) : ∃ g, RowE w s a g n F ∧ (0 < n → B ≤ g) := by
  obtain ⟨hl, ⟨h1, h2⟩ | ⟨g, cap, cur, hv, hB, hh, hn, hm, hs, ht⟩⟩ := h
  · subst h2
    exact ⟨0, RowE.nil _ _ _ _ _, fun q => absurd q (by omega)⟩
  · cases hv
    have each : ∀ i, i < n * s → w.cell? ⟨g, i, none⟩ = some (F (i / s) (i % s)) := fun i hi => by
      have h1 : (cur.toList.take (n * s))[i]? = some (F (i / s) (i % s)) := by rw [ht]; simp [elv, hi]
      rw [List.getElem?_take, if_pos hi, Array.getElem?_toList] at h1
      simp [World.cell?, hh, h1]
    refine ⟨g, ⟨fun _ => rfl, fun i hi j hj => ?_, fun i hi => by simp [World.frozen?, hh]⟩, fun _ => hB⟩
    have := each (i * s + j) (ltE hi hj)
    rw [(divE hj).1, (divE hj).2] at this
    exact this
theorem EO.els {w : World} {B : Nat} {t : TypeId} {s : Nat} {a : Option Addr} {n c : Nat} {F : Nat → Nat → Value} (h : EO w B t s (.slice a n c) n F) : Els w s a n F := by
  obtain ⟨g, h1, _⟩ := h.rowE
  exact h1.els
def updE {T : Type} (f : Nat → T) (k : Nat) (x : T) (i : Nat) : T := if i = k then x else f i
theorem EO.mono {w : World} {B B' : Nat} {t : TypeId} {s : Nat} {v : Value} {n : Nat} {F : Nat → Nat → Value} (h : EO w B t s v n F) (hb : B' ≤ B) : EO w B' t s v n F := by
  obtain ⟨hl, h0 | ⟨g', cap, cur, hv, hB, hr⟩⟩ := h
  · exact ⟨hl, .inl h0⟩
  · exact ⟨hl, .inr ⟨g', cap, cur, hv, Nat.le_trans hb hB, hr⟩⟩
end Go.Proofs.YtkmakpbphdjbcaaGreatDoor
namespace Go.Proofs.YtkmakpbphdjbcaaGreatDoor
open Go.ChangeShapes Go.WideShapes Go.ChangeAt Go.RowKit
set_option linter.unusedVariables false
def Rdr (w : World) (q D N : Nat) (f : Nat → Nat) (p : Option Nat) : Prop :=
  match p with
  | some p => p ≤ N ∧ ∃ a c, N - p ≤ c ∧ Box2 w q 50 (.slice a (N - p) c) (.bool false) ∧ Code8 w a (N - p) (fun i => f (p + i)) ∧ (∀ x, 0 < N - p → a = some x → x.block < D)
  | none => Box2 w q 50 (.slice none 0 0) (.bool true)
theorem Rdr.lt {w : World} {q D N : Nat} {f : Nat → Nat} {p : Option Nat} (h : Rdr w q D N f p) : q < w.heap.size := by
  cases p with
  | none => exact Box2.lt h
  | some p => obtain ⟨_, a, c, _, hb, _⟩ := h; exact hb.lt
theorem Code8.keep {w w' : World} {a : Option Addr} {n D : Nat} {f : Nat → Nat} (h : Code8 w a n f) (hd : ∀ x, 0 < n → a = some x → x.block < D) (e : ∀ b, b < D → w'.heap[b]? = w.heap[b]?) : Code8 w' a n f := fun i hi => by
  obtain ⟨b, o, ha, hc⟩ := h i hi
  refine ⟨b, o, ha, ?_⟩
  rw [← hc]
  exact cellE (e b (hd _ (by omega) ha))
theorem Rdr.keep {w w' : World} {q D N : Nat} {f : Nat → Nat} {p : Option Nat} (h : Rdr w q D N f p) (e1 : w'.heap[q]? = w.heap[q]?) (e2 : ∀ b, b < D → w'.heap[b]? = w.heap[b]?) : Rdr w' q D N f p := by
  cases p with
  | none => exact Box2.ofBlock h e1
  | some p =>
    obtain ⟨h1, a, c, h2, h3, h4, h5⟩ := h
    exact ⟨h1, a, c, h2, h3.ofBlock e1, h4.keep h5 e2, h5⟩
theorem Rdr.below {w w' : World} {q D N : Nat} {f : Nat → Nat} {p : Option Nat} (h : Rdr w q D N f p) (hD : D ≤ q) (hb : Below w.heap.size w w') : Rdr w' q D N f p := h.keep (hb.block q h.lt) (fun b hb' => hb.block b (by have := h.lt; omega))
def Few (w : World) (q k : Nat) : Prop := ∃ a m c s, m < k ∧ Box2 w q 50 (.slice a m c) (.bool s)
theorem few_none {w : World} {q D N k : Nat} {f : Nat → Nat} (hk : 0 < k) (h : Rdr w q D N f none) : Few w q k := ⟨none, 0, 0, true, hk, h⟩
theorem few_some {w : World} {q D N k p : Nat} {f : Nat → Nat} (hp : N < p + k) (h : Rdr w q D N f (some p)) : Few w q k := by
  obtain ⟨h1, a, c, h2, h3, _⟩ := h
  exact ⟨a, N - p, c, false, by omega, h3⟩
theorem OnlyB.made {q : Nat} {w w' : World} (h : OnlyB q w w') (o : Obj) : OnlyB q w (w'.alloc o) := h.below ((Below.refl _ _).alloc (Nat.le_refl _) _)
def Took (w' : World) (e : Ending) (q k : Nat) (g : Nat → Nat) : Prop := ∃ b o c, e = .returned (.slice (some ⟨b, o, none⟩) k c) ∧ Code8 w' (some ⟨b, o, none⟩) k g ∧ b ≠ q
set_option maxRecDepth 100000 in
set_option maxHeartbeats 2000000 in
theorem take_no (q D N k : Nat) (f : Nat → Nat) (hk : k ≤ 1000) (w : World) (h : Few w q k) :
    Calls Tryz.prog 47 #[.pointer (some ⟨q, 0, none⟩), .int .i64 (k : Int)] w fun e w' => Took w' e q k (fun _ => 0) ∧ Rdr w' q D N f none ∧ OnlyB q w w' := by
  obtain ⟨a, m, c, s, hm, h⟩ := h
  have X : Hid (Box2 w q 50 (.slice a m c) (.bool s)) := h
  have x0 := X.out.c0
  have x1 := X.out.c1
  have f0 := X.out.fr 0
  have f1 := X.out.fr 1
  have m1 := mkBytes k (by omega)
  have k1 : (m : Int) < (k : Int) := by omega
  have Y : Hid (Box2 ((w.setCell ⟨q, 0, none⟩ (.slice none 0 0)).setCell ⟨q, 1, none⟩ (.bool true)) q 50 (.slice none 0 0) (.bool true)) := (X.out.set0 _).set1 _
  have O : Hid (OnlyB q w ((w.setCell ⟨q, 0, none⟩ (.slice none 0 0)).setCell ⟨q, 1, none⟩ (.bool true))) := ((OnlyB.refl q w).setCell 0 _).setCell 1 _
  clear h hm
  go_enter Tryz.func47, Tryz.ntmps47
  go_wp2
  go_ret
  have Z : (((w.setCell ⟨q, 0, none⟩ (.slice none 0 0)).setCell ⟨q, 1, none⟩ (.bool true)).alloc (.cells (madeCells #[.int .u8 0] k) 5)).rowIs ((w.setCell ⟨q, 0, none⟩ (.slice none 0 0)).setCell ⟨q, 1, none⟩ (.bool true)).heap.size 5 k (fun _ => .int .u8 0) := World.rowIs_made _ _ _ _
  have hs : ((w.setCell ⟨q, 0, none⟩ (.slice none 0 0)).setCell ⟨q, 1, none⟩ (.bool true)).heap.size = w.heap.size := by simp
  rw [hs] at Z
  refine ⟨⟨w.heap.size, 0, k, rfl, fun i hi => ⟨w.heap.size, 0, rfl, by rw [Nat.zero_add]; exact Z.cell hi⟩, Nat.ne_of_gt X.out.lt⟩, ?_, O.out.made _⟩
  exact Y.out.alloc _
set_option maxRecDepth 100000 in
set_option maxHeartbeats 2000000 in
theorem take_yes (q D N k p : Nat) (hD : D ≤ q) (f : Nat → Nat) (hk0 : 0 < k) (hk : k ≤ 1000) (hN : N ≤ 1048576) (hp : p + k ≤ N) (w : World) (h : Rdr w q D N f (some p)) :
    Calls Tryz.prog 47 #[.pointer (some ⟨q, 0, none⟩), .int .i64 (k : Int)] w fun e w' => Took w' e q k (fun i => f (p + i)) ∧ Rdr w' q D N f (some (p + k)) ∧ OnlyB q w w' := by
  obtain ⟨h1, a, c, h2, h3, h4, h5⟩ := h
  obtain ⟨b, o, rfl, hc⟩ := h4.opened (by omega)
  have X : Hid (Box2 w q 50 (.slice (some ⟨b, o, none⟩) (N - p) c) (.bool false)) := h3
  have HC : Hid (Code8 w (some ⟨b, o, none⟩) (N - p) (fun i => f (p + i))) := h4
  have DB : Hid (b < D) := h5 _ (by omega) rfl
  have NB : Hid (b ≠ q) := by have := DB.out; show _ ≠ _; omega
  have x0 := X.out.c0
  have x1 := X.out.c1
  have f0 := X.out.fr 0
  have f1 := X.out.fr 1
  obtain ⟨m, hm⟩ : ∃ m, m = N - p := ⟨_, rfl⟩
  rw [← hm] at x0 X HC h2
  have k1 : ¬ (m : Int) < (k : Int) := by omega
  have k2 : (k : Int) ≤ (m : Int) := by omega
  have k3 : k ≤ m := by omega
  have k4 : m ≤ c := h2
  have HM : Hid (m = N - p) := hm
  clear h1 h3 h4 h5 hc hm
  by_cases hcc : c = k
  · subst hcc
    obtain rfl : m = c := by omega
    have XX : Hid (Box2 (w.setCell ⟨q, 0, none⟩ (.slice (some ⟨b, o, none⟩) 0 0)) q 50 (.slice (some ⟨b, o, none⟩) 0 0) (.bool false)) := X.out.set0 _
    go_enter Tryz.func47, Tryz.ntmps47
    go_wp2
    go_ret
    have O : OnlyB q w (w.setCell ⟨q, 0, none⟩ (.slice (some ⟨b, o, none⟩) 0 0)) := (OnlyB.refl q w).setCell 0 _
    have HM1 := HM.out
    refine ⟨⟨b, o, m, rfl, HC.out.onlyB O (fun x _ hx => by cases hx; exact NB.out), NB.out⟩, ⟨by omega, some ⟨b, o, none⟩, 0, by omega, ?_, fun i hi => absurd hi (by omega), fun x h0 => absurd h0 (by omega)⟩, O⟩
    rw [show N - (p + m) = 0 from by omega]
    exact XX.out
  · have hcc' : ¬ k = c := fun e => hcc e.symm
    have XX : Hid (Box2 (w.setCell ⟨q, 0, none⟩ (.slice (some ⟨b, o + k, none⟩) (m - k) (c - k))) q 50 (.slice (some ⟨b, o + k, none⟩) (m - k) (c - k)) (.bool false)) := X.out.set0 _
    go_enter Tryz.func47, Tryz.ntmps47
    go_wp2
    go_ret
    have O : OnlyB q w (w.setCell ⟨q, 0, none⟩ (.slice (some ⟨b, o + k, none⟩) (m - k) (c - k))) := (OnlyB.refl q w).setCell 0 _
    have HM1 := HM.out
    have C1 := HC.out.onlyB O (fun x _ hx => by cases hx; exact NB.out)
    refine ⟨⟨b, o, c, rfl, C1.part k3, NB.out⟩, ⟨by omega, some ⟨b, o + k, none⟩, c - k, by omega, ?_, ?_, fun x h0 hx => by cases hx; exact DB.out⟩, O⟩
    · rw [show N - (p + k) = m - k from by omega]
      exact XX.out
    · have := C1.shift k
      rw [show N - (p + k) = m - k from by omega]
      exact this.congr (fun i hi => by show f (p + (k + i)) = f (p + k + i); rw [Nat.add_assoc])
def valN (g : Nat → Nat) : Nat → Nat
  | 0 => 0
  | k + 1 => valN g k * 256 + g k
theorem valN_lt (g : Nat → Nat) (hg : ∀ i, g i < 256) (k : Nat) : valN g k < 256 ^ k := by
  induction k with
  | zero => simp [valN]
  | succ k ih =>
    have := hg k
    unfold valN
    rw [Nat.pow_succ]
    omega
theorem valN_zero (k : Nat) : valN (fun _ => 0) k = 0 := by
  induction k with
  | zero => rfl
  | succ k ih => unfold valN; rw [ih]
theorem orAdd (x y : Nat) (h : y < 256) : x * 256 ||| y = x * 256 + y := by
  have := Nat.shiftLeft_add_eq_or_of_lt (b := y) (i := 8) (by omega) x
  rw [Nat.shiftLeft_eq] at this
  exact this.symm
theorem i64_orN (x y : Nat) (hx : x < 16777216) (hy : y < 256) : bits .or .i64 ((x : Int) * 256) (y : Int) = ((x * 256 + y : Nat) : Int) := by
  have e : ((x : Int) * 256) = ((x * 256 : Nat) : Int) := by simp
  have h1 : (BitVec.ofInt 64 ((x * 256 : Nat) : Int)).toNat = x * 256 := by rw [BitVec.ofInt_natCast, BitVec.toNat_ofNat]; exact Nat.mod_eq_of_lt (by omega)
  have h2 : (BitVec.ofInt 64 (y : Int)).toNat = y := by rw [BitVec.ofInt_natCast, BitVec.toNat_ofNat]; exact Nat.mod_eq_of_lt (by omega)
  rw [e]
  show IntKind.i64.wrap ((BitVec.ofInt 64 ((x * 256 : Nat) : Int) ||| BitVec.ofInt 64 (y : Int)).toNat : Int) = _
  rw [BitVec.toNat_or, h1, h2, orAdd x y hy]
  exact IntWalk.i64_in _ (by omega)
set_option maxRecDepth 100000 in
set_option maxHeartbeats 2000000 in
theorem number_of (q k : Nat) (g : Nat → Nat) (hg : ∀ i, g i < 256) (hk : k ≤ 4) (w : World) (R : World → Prop)
    (ht : Calls Tryz.prog 47 #[.pointer (some ⟨q, 0, none⟩), .int .i64 (k : Int)] w fun e w' => Took w' e q k g ∧ R w' ∧ OnlyB q w w') :
    Calls Tryz.prog 24 #[.pointer (some ⟨q, 0, none⟩), .int .i64 (k : Int)] w fun e w' => e = .returned (.int .i64 (valN g k : Nat)) ∧ R w' ∧ OnlyB q w w' := by
  have HT : Hid (Calls Tryz.prog 47 #[.pointer (some ⟨q, 0, none⟩), .int .i64 (k : Int)] w fun e w' => Took w' e q k g ∧ R w' ∧ OnlyB q w w') := ht
  have HG : Hid (∀ i, g i < 256) := hg
  clear ht hg
  go_enter Tryz.func24, Tryz.ntmps24
  go_wp2_with fail
  refine HT.out.mono ?_
  rintro e w1 ⟨⟨b, o, c, rfl, hc, hb⟩, hr, ho⟩
  have HC : Hid (Code8 w1 (some ⟨b, o, none⟩) k g) := hc
  have HR : Hid (R w1) := hr
  have HO : Hid (OnlyB q w w1) := ho
  clear hc hr ho hb HT
  go_wp2
  go_loopw [5, 12] (fun s i wr => ∃ r : Nat, r ≤ k ∧ i = .int .i64 r ∧ s = .int .i64 ((valN g r : Nat) : Int) ∧ w1 = wr) (fun _ i _ => k - (intOf i).toNat)
  case atStart => exact ⟨0, by omega, rfl, rfl, rfl⟩
  case round =>
    obtain ⟨r, hr, rfl, rfl, rfl⟩ := hrel
    by_cases hlt : r < k
    · have hlt' : (r : Int) < (k : Int) := by omega
      have c0 := HC.out.at hlt
      have g0 := HG.out r
      have v0 := valN_lt g HG.out r
      have v1 : valN g r < 16777216 := Nat.lt_of_lt_of_le v0 (by
        have : 256 ^ r ≤ 256 ^ 3 := Nat.pow_le_pow_right (by omega) (by omega)
        simpa using this)
      have V : Hid (valN g (r + 1) = valN g r * 256 + g r) := rfl
      have OA := i64_orN (valN g r) (g r) v1 g0
      generalize valN g r = x at *
      generalize g r = y at *
      clear v0
      go_wp2
      go_roundw
      case rel => exact ⟨r + 1, by omega, by go_num, by rw [V.out]; exact numEq8 (by omega), trivial⟩
      case measure => simp [intOf]; omega
    · obtain rfl : r = k := by omega
      have hlt' : ¬ (r : Int) < (r : Int) := by omega
      go_wp2
      go_ret
      exact ⟨rfl, HR.out, HO.out⟩
theorem number_yes (q D N k p : Nat) (hD : D ≤ q) (f : Nat → Nat) (hf : ∀ i, f i < 256) (hk0 : 0 < k) (hk : k ≤ 4) (hN : N ≤ 1048576) (hp : p + k ≤ N) (w : World) (h : Rdr w q D N f (some p)) :
    Calls Tryz.prog 24 #[.pointer (some ⟨q, 0, none⟩), .int .i64 (k : Int)] w fun e w' => e = .returned (.int .i64 (valN (fun i => f (p + i)) k : Nat)) ∧ Rdr w' q D N f (some (p + k)) ∧ OnlyB q w w' :=
  number_of q k (fun i => f (p + i)) (fun i => hf _) hk w (fun w' => Rdr w' q D N f (some (p + k))) (take_yes q D N k p hD f hk0 (by omega) hN hp w h)
theorem number_no (q D N k : Nat) (f : Nat → Nat) (hk : k ≤ 4) (w : World) (h : Few w q k) :
    Calls Tryz.prog 24 #[.pointer (some ⟨q, 0, none⟩), .int .i64 (k : Int)] w fun e w' => e = .returned (.int .i64 0) ∧ Rdr w' q D N f none ∧ OnlyB q w w' := by
  have := number_of q k (fun _ => 0) (fun _ => by omega) hk w (fun w' => Rdr w' q D N f none) (take_no q D N k f (by omega) w h)
  rw [valN_zero] at this
  exact this
set_option maxRecDepth 100000 in
set_option maxHeartbeats 2000000 in
theorem text_of (q k : Nat) (g : Nat → Nat) (w : World) (R : World → Prop)
    (ht : Calls Tryz.prog 47 #[.pointer (some ⟨q, 0, none⟩), .int .i64 (k : Int)] w fun e w' => Took w' e q k g ∧ R w' ∧ OnlyB q w w') :
    Calls Tryz.prog 26 #[.pointer (some ⟨q, 0, none⟩), .int .i64 (k : Int)] w fun e w' => e = .returned (.string (kstr g 0 k)) ∧ R w' ∧ OnlyB q w w' := by
  have HT : Hid (Calls Tryz.prog 47 #[.pointer (some ⟨q, 0, none⟩), .int .i64 (k : Int)] w fun e w' => Took w' e q k g ∧ R w' ∧ OnlyB q w w') := ht
  have KS : Hid (∀ (b o c : Nat) (w : World), Code8 w (some ⟨b, o, none⟩) k g → (convert 22 9 (.slice (some ⟨b, o, none⟩) k c)).run Tryz.prog w = .ok (.string (kstr g 0 k)) w) := fun b o c w h => kstr_of_code h
  generalize kstr g 0 k = s at *
  clear ht
  go_enter Tryz.func26, Tryz.ntmps26
  go_wp2_with fail
  refine HT.out.mono ?_
  rintro e w1 ⟨⟨b, o, c, rfl, hc, hb⟩, hr, ho⟩
  have hcv := KS.out b o c w1 hc
  have HR : Hid (R w1) := hr
  have HO : Hid (OnlyB q w w1) := ho
  clear hc hr ho hb HT KS
  go_wp2
  go_ret
  exact ⟨rfl, HR.out, HO.out⟩
def Nxt (N k : Nat) (p p' : Option Nat) (Q : Nat → Prop) : Prop := (p' = none ∧ (p = none ∨ ∃ P, p = some P ∧ N < P + k)) ∨ ∃ P, p = some P ∧ P + k ≤ N ∧ p' = some (P + k) ∧ Q P
def GotN (w' : World) (e : Ending) (q D N k : Nat) (f : Nat → Nat) (p : Option Nat) : Prop := ∃ (x : Nat) (p' : Option Nat), e = .returned (.int .i64 (x : Int)) ∧ Rdr w' q D N f p' ∧ Nxt N k p p' (fun P => x = valN (fun i => f (P + i)) k) ∧ x < 256 ^ k
theorem number_any (q D N k : Nat) (hD : D ≤ q) (f : Nat → Nat) (hf : ∀ i, f i < 256) (hk0 : 0 < k) (hk : k ≤ 4) (hN : N ≤ 1048576) (p : Option Nat) (w : World) (h : Rdr w q D N f p) :
    Calls Tryz.prog 24 #[.pointer (some ⟨q, 0, none⟩), .int .i64 (k : Int)] w fun e w' => GotN w' e q D N k f p ∧ OnlyB q w w' := by
  have no : Few w q k → (p = none ∨ ∃ P, p = some P ∧ N < P + k) → Calls Tryz.prog 24 #[.pointer (some ⟨q, 0, none⟩), .int .i64 (k : Int)] w fun e w' => GotN w' e q D N k f p ∧ OnlyB q w w' := fun hF hX => (number_no q D N k f hk w hF).mono fun e w' ⟨he, hr, ho⟩ => ⟨⟨0, none, he, hr, .inl ⟨rfl, hX⟩, Nat.pow_pos (by omega)⟩, ho⟩
  cases p with
  | none => exact no (few_none hk0 h) (.inl rfl)
  | some P =>
    by_cases hP : P + k ≤ N
    · exact (number_yes q D N k P hD f hf hk0 hk hN hP w h).mono fun e w' ⟨he, hr, ho⟩ => ⟨⟨_, some (P + k), he, hr, .inr ⟨P, rfl, hP, rfl, rfl⟩, valN_lt _ (fun i => hf _) k⟩, ho⟩
    · exact no (few_some (by omega) h) (.inr ⟨P, rfl, by omega⟩)
def GotT (w' : World) (e : Ending) (q D N k : Nat) (f : Nat → Nat) (p : Option Nat) : Prop := ∃ (x : ByteArray) (p' : Option Nat), e = .returned (.string x) ∧ Rdr w' q D N f p' ∧ Nxt N k p p' (fun P => x = kstr (fun i => f (P + i)) 0 k)
theorem rdText_any (q D N k : Nat) (hD : D ≤ q) (f : Nat → Nat) (hk0 : 0 < k) (hk : k ≤ 1000) (hN : N ≤ 1048576) (p : Option Nat) (w : World) (h : Rdr w q D N f p) :
    Calls Tryz.prog 26 #[.pointer (some ⟨q, 0, none⟩), .int .i64 (k : Int)] w fun e w' => GotT w' e q D N k f p ∧ OnlyB q w w' := by
  have no : Few w q k → (p = none ∨ ∃ P, p = some P ∧ N < P + k) → Calls Tryz.prog 26 #[.pointer (some ⟨q, 0, none⟩), .int .i64 (k : Int)] w fun e w' => GotT w' e q D N k f p ∧ OnlyB q w w' := fun hF hX => (text_of q k (fun _ => 0) w (fun w' => Rdr w' q D N f none) (take_no q D N k f hk w hF)).mono fun e w' ⟨he, hr, ho⟩ => ⟨⟨_, none, he, hr, .inl ⟨rfl, hX⟩⟩, ho⟩
  cases p with
  | none => exact no (few_none hk0 h) (.inl rfl)
  | some P =>
    by_cases hP : P + k ≤ N
    · exact (text_of q k (fun i => f (P + i)) w (fun w' => Rdr w' q D N f (some (P + k))) (take_yes q D N k P hD f hk0 hk hN hP w h)).mono fun e w' ⟨he, hr, ho⟩ => ⟨⟨_, some (P + k), he, hr, .inr ⟨P, rfl, hP, rfl, rfl⟩⟩, ho⟩
    · exact no (few_some (by omega) h) (.inr ⟨P, rfl, by omega⟩)
set_option maxRecDepth 100000 in
theorem ended_no (q D N p : Nat) (f : Nat → Nat) (hp : p < N) (w : World) (h : Rdr w q D N f (some p)) :
    Calls Tryz.prog 27 #[.pointer (some ⟨q, 0, none⟩)] w fun e w' => e = .returned (.bool false) ∧ w = w' := by
  obtain ⟨h1, a, c, h2, h3, _⟩ := h
  obtain ⟨m, hm⟩ : ∃ m, m = N - p := ⟨_, rfl⟩
  rw [← hm] at h3
  have x0 := h3.c0
  have x1 := h3.c1
  have e0 : ((m : Int) == 0) = false := by simp; omega
  have m0 : ¬ m = 0 := by omega
  clear h1 h2 h3 hm
  go_enter Tryz.func27, Tryz.ntmps27
  go_wp2
  go_ret
  exact ⟨rfl, rfl⟩
set_option maxRecDepth 100000 in
theorem ended_yes (q D N : Nat) (f : Nat → Nat) (w : World) (h : Rdr w q D N f (some N)) :
    Calls Tryz.prog 27 #[.pointer (some ⟨q, 0, none⟩)] w fun e w' => e = .returned (.bool true) ∧ w = w' := by
  obtain ⟨h1, a, c, h2, h3, _⟩ := h
  rw [Nat.sub_self] at h3
  have x0 := h3.c0
  have x1 := h3.c1
  clear h1 h2 h3
  go_enter Tryz.func27, Tryz.ntmps27
  go_wp2
  go_ret
  exact ⟨rfl, rfl⟩
set_option maxRecDepth 100000 in
theorem ended_short (q D N : Nat) (f : Nat → Nat) (w : World) (h : Rdr w q D N f none) :
    Calls Tryz.prog 27 #[.pointer (some ⟨q, 0, none⟩)] w fun e w' => e = .returned (.bool false) ∧ w = w' := by
  have x0 := Box2.c0 h
  have x1 := Box2.c1 h
  clear h
  go_enter Tryz.func27, Tryz.ntmps27
  go_wp2
  go_ret
  exact ⟨rfl, rfl⟩
end Go.Proofs.YtkmakpbphdjbcaaGreatDoor
namespace Go.Proofs.YtkmakpbphdjbcaaGreatDoor
open Go.ChangeShapes Go.WideShapes Go.ChangeAt Go.RowKit
theorem ret_cell {P : Program} {fn : Func} {p : Tmp} {ty : TypeId} {tmps : Array Value} {w : World} {b : Nat} {v : Value} {Post : Ending → World → Prop} (h : fn.results = #[.cell p ty]) (hp : tmps.getD p undef = .pointer (some ⟨b, 0, none⟩)) (hl : (loadVar ty ⟨b, 0, none⟩).run P w = .ok v w) (hq : Post (.returned v) w) : bodyPost P fn Post .ret { tmps := tmps, defers := [] } w :=
  bodyPost_ret (results_cell_one h tmps P w hp hl) rfl hq
theorem ret_cell2 {P : Program} {fn : Func} {p u : Tmp} {ty : TypeId} {tmps : Array Value} {w : World} {b : Nat} {v x : Value} {Post : Ending → World → Prop} (h : fn.results = #[.cell p ty, .tmp u]) (hp : tmps.getD p undef = .pointer (some ⟨b, 0, none⟩)) (hu : tmps.getD u undef = x) (hl : (loadVar ty ⟨b, 0, none⟩).run P w = .ok v w) (hq : Post (.returned (.tuple #[v, x])) w) : bodyPost P fn Post .ret { tmps := tmps, defers := [] } w := by
  refine bodyPost_ret (v := .tuple #[v, x]) ?_ rfl hq
  rw [results_cell_tmp h, hp, hu]
  simp [asAddr, hl, Result.andThen]
end Go.Proofs.YtkmakpbphdjbcaaGreatDoor
namespace Go.Proofs.YtkmakpbphdjbcaaGreatDoor
open Go.ChangeShapes Go.WideShapes Go.ChangeAt Go.RowKit
set_option linter.unusedVariables false
structure Plc where
  bk : Int
  vs : Int
def pcV (x : Plc) : Nat → Value
  | 0 => .int .i64 x.bk
  | _ => .int .i64 x.vs
def pcF (PC : Nat → Plc) (i j : Nat) : Value := pcV (PC i) j
def pcZ : Plc := ⟨0, 0⟩
theorem Els.pcC {w : World} {b off n : Nat} {PC : Nat → Plc} (h : ∀ i, i < n → ∀ j, j < 2 → w.cell? ⟨b, off + i * 2 + j, none⟩ = some (pcF PC i j)) (k : Nat) (hk : k < n) : w.cell? ⟨b, off + k * 2, none⟩ = some (.int .i64 (PC k).bk) ∧ w.cell? ⟨b, off + k * 2 + 1, none⟩ = some (.int .i64 (PC k).vs) := ⟨h k hk 0 (by omega), h k hk 1 (by omega)⟩
theorem Tryz.infoPlc : (Tryz.prog.info? 36).map (fun i => (i.zero, i.size, i.bytes)) = some (some (.agg #[.int .i64 0, .int .i64 0]), 2, 16) := by kernel_rfl
end Go.Proofs.YtkmakpbphdjbcaaGreatDoor
namespace Go.Proofs.YtkmakpbphdjbcaaGreatDoor
open Go.ChangeShapes Go.WideShapes Go.ChangeAt Go.RowKit
set_option linter.unusedVariables false
set_option maxRecDepth 100000 in
theorem appPlc (w : World) (B : Nat) (v : Value) (n q : Nat) (R : Nat → Plc) (x : Plc) (hB : B ≤ w.heap.size) (hn : n ≤ 100000) (h : EO w B 36 2 v n (pcF R)) (hx : ∀ j, j < 2 → w.cell? ⟨q, 0 + j, none⟩ = some (pcV x j)) :
    ∃ v' w', (∀ ty, (Builtin.append_ #[23, 23] ty #[v, .slice (some ⟨q, 0, none⟩) 1 1]).run Tryz.prog w = .ok v' w') ∧ EO w' B 36 2 v' (n + 1) (pcF (updE R n x)) ∧ w.grownBy w' v.ownBlock ∧ (v'.ownBlock = v.ownBlock ∨ v'.ownBlock = some w.heap.size) := by
  obtain ⟨i, hi, hz, hsz, hby⟩ := info_parts Tryz.infoPlc
  obtain ⟨v', w', hr, ho, hg, _, hloc⟩ := run_append_own_at (P := Tryz.prog) w B 23 23 36 i _ 2 16 Tryz.underlying23 hi hz hsz hby rfl (by decide) v n _ h ⟨q, 0, none⟩ 1 1 ((List.range 2).map (pcV x)) (by simp) (fun j u hj => by
    rw [Go.WideShapes.add_plain]
    rw [List.getElem?_map, Option.map_eq_some_iff] at hj
    obtain ⟨b, hb, rfl⟩ := hj
    obtain ⟨hj', rfl⟩ := List.getElem?_eq_some_iff.1 hb
    rw [List.getElem_range]
    exact hx j (by simpa using hj')) (fun u hu => by
      obtain ⟨j, hj, rfl⟩ := List.mem_map.1 hu
      have := List.mem_range.1 hj
      rcases (show j = 0 ∨ j = 1 by omega) with rfl | rfl <;> rfl) (by unfold maxLen; omega) (by omega) hB
  refine ⟨v', w', fun ty => hr, ?_, hg, hloc⟩
  unfold EO
  rw [elv_snoc, elv_congr (G := pcF R) (fun i hi j hj => by unfold pcF updE; rw [if_neg (by omega)])]
  have e : (List.range 2).map (pcF (updE R n x) n) = (List.range 2).map (pcV x) := by unfold pcF updE; simp
  rw [e]
  exact ho
end Go.Proofs.YtkmakpbphdjbcaaGreatDoor
namespace Go.Proofs.YtkmakpbphdjbcaaGreatDoor
open Go.ChangeShapes Go.WideShapes Go.ChangeAt Go.RowKit
theorem in_any (x a b : Int) (r : Bool) (hr : r = decide (a ≤ x ∧ x ≤ b)) (w : World) :
    Calls Tryz.prog 37 #[.int .i64 x, .int .i64 a, .int .i64 b] w fun e w' => e = .returned (.bool r) ∧ w = w' := by
  by_cases h1 : a ≤ x
  · by_cases h2 : x ≤ b
    · obtain rfl : r = true := by rw [hr]; simp; omega
      clear hr
      go_enter Tryz.func37, Tryz.ntmps37
      go_wp2
      go_ret
      exact ⟨rfl, rfl⟩
    · obtain rfl : r = false := by rw [hr]; simp; omega
      clear hr
      go_enter Tryz.func37, Tryz.ntmps37
      go_wp2
      go_ret
      exact ⟨rfl, rfl⟩
  · obtain rfl : r = false := by rw [hr]; simp; omega
    clear hr
    go_enter Tryz.func37, Tryz.ntmps37
    go_wp2
    go_ret
    exact ⟨rfl, rfl⟩
end Go.Proofs.YtkmakpbphdjbcaaGreatDoor
namespace Go.Proofs.YtkmakpbphdjbcaaGreatDoor
open Go.ChangeShapes Go.WideShapes Go.ChangeAt Go.RowKit
set_option linter.unusedVariables false
open Classical in
noncomputable def gB (P : Prop) : Bool := decide P
theorem gB_yes {P : Prop} (h : P) : gB P = true := by unfold gB; simp [h]
theorem gB_no {P : Prop} (h : ¬ P) : gB P = false := by unfold gB; simp [h]
def pcsN (n : Nat) : Nat := (n + 63) / 64
theorem pcsN_le {n : Nat} (h : n ≤ 1024) : pcsN n ≤ 16 := by unfold pcsN; omega
theorem pcsN_div (n : Nat) : ((n : Int) + 63).tdiv 64 = ((pcsN n : Nat) : Int) := by
  unfold pcsN
  have e : ((n : Int) + 63) = ((n + 63 : Nat) : Int) := by omega
  rw [e]
  exact (Int.ofNat_tdiv _ _).symm
set_option maxRecDepth 100000 in
theorem implPc_no (z : Int) (h : ¬ (0 ≤ z ∧ z ≤ 1024)) (w : World) :
    Calls Tryz.prog 25 #[.int .i64 z] w fun e w' => e = .returned (.tuple #[.int .i64 0, .int .i64 4]) ∧ w = w' := by
  by_cases h0 : z < 0
  · clear h
    go_enter Tryz.func25, Tryz.ntmps25
    go_wp2
    exact bodyPost_ret (results_tmp2 Tryz.results25 _ _ _) rfl ⟨rfl, rfl⟩
  · have h1 : 1024 < z := by omega
    clear h
    go_enter Tryz.func25, Tryz.ntmps25
    go_wp2
    exact bodyPost_ret (results_tmp2 Tryz.results25 _ _ _) rfl ⟨rfl, rfl⟩
set_option maxRecDepth 100000 in
theorem implPc_ok (n : Nat) (h : n ≤ 1024) (w : World) :
    Calls Tryz.prog 25 #[.int .i64 (n : Int)] w fun e w' => e = .returned (.tuple #[.int .i64 ((pcsN n : Nat) : Int), .int .i64 0]) ∧ w = w' := by
  have h0 : ¬ (n : Int) < 0 := by omega
  have h1 : ¬ (1024 : Int) < (n : Int) := by omega
  have h2 := pcsN_div n
  have h3 : ((n : Int) + 63) / 64 = ((pcsN n : Nat) : Int) := by unfold pcsN; omega
  have h4 : (n : Int) + 64 - 1 = (n : Int) + 63 := by omega
  go_enter Tryz.func25, Tryz.ntmps25
  go_wp2
  exact bodyPost_ret (results_tmp2 Tryz.results25 _ _ _) rfl ⟨rfl, rfl⟩
set_option maxRecDepth 100000 in
theorem l12Count_any (n : Nat) (h : n ≤ 70000) (w : World) :
    Calls Tryz.prog 43 #[.int .i64 (n : Int)] w fun e w' => e = .returned (.int .i64 ((pcsN n : Nat) : Int)) ∧ w = w' := by
  have h2 := pcsN_div n
  have h3 : ((n : Int) + 63) / 64 = ((pcsN n : Nat) : Int) := by unfold pcsN; omega
  have h4 : (n : Int) + 64 - 1 = (n : Int) + 63 := by omega
  go_enter Tryz.func43, Tryz.ntmps43
  go_wp2
  go_ret
  exact ⟨rfl, rfl⟩
end Go.Proofs.YtkmakpbphdjbcaaGreatDoor
namespace Go.Proofs.YtkmakpbphdjbcaaGreatDoor
open Go.ChangeShapes Go.WideShapes Go.ChangeAt Go.RowKit
def Box3 (w : World) (b : Nat) (t : TypeId) (x y z : Value) : Prop := w.rowIs b t 3 (fun i => if i = 0 then x else if i = 1 then y else z)
theorem Box3.c0 {w : World} {b : Nat} {t : TypeId} {x y z : Value} (h : Box3 w b t x y z) : w.cell? ⟨b, 0, none⟩ = some x := World.rowIs.cell h (i := 0) (by omega)
theorem Box3.c1 {w : World} {b : Nat} {t : TypeId} {x y z : Value} (h : Box3 w b t x y z) : w.cell? ⟨b, 1, none⟩ = some y := World.rowIs.cell h (i := 1) (by omega)
theorem Box3.c2 {w : World} {b : Nat} {t : TypeId} {x y z : Value} (h : Box3 w b t x y z) : w.cell? ⟨b, 2, none⟩ = some z := World.rowIs.cell h (i := 2) (by omega)
theorem Box3.fr {w : World} {b : Nat} {t : TypeId} {x y z : Value} (h : Box3 w b t x y z) (i : Nat) : w.frozen? ⟨b, i, none⟩ = false := World.rowIs.frozen h i
theorem Box3.lt {w : World} {b : Nat} {t : TypeId} {x y z : Value} (h : Box3 w b t x y z) : b < w.heap.size := World.rowIs.lt h
theorem Box3.ofBlock {w w' : World} {b : Nat} {t : TypeId} {x y z : Value} (h : Box3 w b t x y z) (e : w'.heap[b]? = w.heap[b]?) : Box3 w' b t x y z := World.rowIs.of_block h e
theorem Box3.below {w w' : World} {b : Nat} {t : TypeId} {x y z : Value} (h : Box3 w b t x y z) (hb : Below w.heap.size w w') : Box3 w' b t x y z := h.ofBlock (hb.block b h.lt)
theorem Box3.made (w : World) (t : TypeId) (x y z : Value) : Box3 (w.alloc (.cells #[x, y, z] t)) w.heap.size t x y z := World.rowIs_alloc w #[x, y, z] t _ (fun i hi => by
  rcases (show i = 0 ∨ i = 1 ∨ i = 2 by simp at hi; omega) with rfl | rfl | rfl <;> rfl)
theorem Box3.alloc {w : World} {b : Nat} {t : TypeId} {x y z : Value} (h : Box3 w b t x y z) (o : Obj) : Box3 (w.alloc o) b t x y z := World.rowIs.alloc h o
theorem Box3.set0 {w : World} {b : Nat} {t : TypeId} {x y z : Value} (h : Box3 w b t x y z) (v : Value) : Box3 (w.setCell ⟨b, 0, none⟩ v) b t v y z := World.rowIs.congr (World.rowIs.set h 0 v) (fun i hi => by
  rcases (show i = 0 ∨ i = 1 ∨ i = 2 by omega) with rfl | rfl | rfl <;> rfl)
theorem Box3.set1 {w : World} {b : Nat} {t : TypeId} {x y z : Value} (h : Box3 w b t x y z) (v : Value) : Box3 (w.setCell ⟨b, 1, none⟩ v) b t x v z := World.rowIs.congr (World.rowIs.set h 1 v) (fun i hi => by
  rcases (show i = 0 ∨ i = 1 ∨ i = 2 by omega) with rfl | rfl | rfl <;> rfl)
theorem Box3.set2 {w : World} {b : Nat} {t : TypeId} {x y z : Value} (h : Box3 w b t x y z) (v : Value) : Box3 (w.setCell ⟨b, 2, none⟩ v) b t x y v := World.rowIs.congr (World.rowIs.set h 2 v) (fun i hi => by
  rcases (show i = 0 ∨ i = 1 ∨ i = 2 by omega) with rfl | rfl | rfl <;> rfl)
theorem Box3.other {w : World} {b : Nat} {t : TypeId} {x y z : Value} (h : Box3 w b t x y z) {a : Addr} (ha : b ≠ a.block) (v : Value) : Box3 (w.setCell a v) b t x y z := World.rowIs.setOther h ha v
end Go.Proofs.YtkmakpbphdjbcaaGreatDoor
namespace Go.Proofs.YtkmakpbphdjbcaaGreatDoor
theorem wpAnyH_strong {P : Program} {md : Region.Mode} {ops : Array Oper} {Q : Exit → Act → World → Prop} {S S' : World → Prop} (hS : ∀ w, S' w → S w) :
    ∀ (fuel : Nat) (listed : Array Bool) (a : Act) (w : World), wpAnyH P md ops Q S' fuel listed a w → wpAnyH P md ops Q S fuel listed a w
  | 0, _, _, _, h => h
  | fuel + 1, _, _, _, h => ⟨h.1, fun i hi => wpOp_mono (fun a' w' h' => ⟨hS _ h'.1, wpAnyH_strong hS fuel _ a' w' h'.2⟩) (h.2 i hi)⟩
end Go.Proofs.YtkmakpbphdjbcaaGreatDoor
namespace Go.Proofs.YtkmakpbphdjbcaaGreatDoor
open Go.ChangeShapes Go.WideShapes Go.ChangeAt Go.RowKit
set_option linter.unusedVariables false
structure SlP (a : Option Addr) (n c : Nat) : Prop where
  z : a = none → c = 0
  f : a = none ∨ ∃ g off, a = some ⟨g, off, none⟩
  le : n ≤ c
  mx : c ≤ maxLen
theorem EO.slp {w : World} {B : Nat} {t : TypeId} {s : Nat} {a : Option Addr} {n c : Nat} {F : Nat → Nat → Value} (h : EO w B t s (.slice a n c) n F) : SlP a n c := by
  obtain ⟨hl, ⟨h1, h2⟩ | ⟨g, cap, cur, hv, _, _, hn, hm, _⟩⟩ := h
  · cases h1; exact ⟨fun _ => rfl, .inl rfl, by omega, by unfold maxLen; omega⟩
  · cases hv; exact ⟨(fun e => by cases e), .inr ⟨_, _, rfl⟩, hn, hm⟩
theorem run_cut_to {P : Program} (T : TypeId) (hu : P.underlying T = some (.slice (P.elem T))) (s : Nat) (hs : ∀ w, (sizeOf (P.elem T)).run P w = .ok s w) {a : Option Addr} {n c : Nat} (h : SlP a n c) (k : Nat) (hk : k ≤ c) (w : World) :
    (Instr.slice T (.slice a n c) none (some (.int .i64 (k : Int))) none).run P w = .ok (.slice a k c) w := by
  rw [run_slice_h (P := P) (w := w) T a n c hu .i64 (k : Int) (by omega) (by omega)]
  simp only [hs, Result.andThen, sliced, Int.toNat_natCast, Nat.zero_mul, Nat.sub_zero]
  rcases h.f with rfl | ⟨g, off, rfl⟩
  · simp
  · simp [Go.WideShapes.add_plain]
end Go.Proofs.YtkmakpbphdjbcaaGreatDoor
namespace Go.Proofs.YtkmakpbphdjbcaaGreatDoor
open Go.ChangeShapes Go.WideShapes Go.ChangeAt Go.RowKit
set_option linter.unusedVariables false
def Plc.Ok (p : Plc) : Prop := (2 ≤ p.bk ∧ p.bk < 64) ∧ (1 ≤ p.vs ∧ p.vs ≤ 65535)
def PlOne (P : Nat → Plc) (i : Nat) : Prop := (P i).Ok ∧ ∀ j, j < i → (P j).bk ≠ (P i).bk
def SupOk (z : Int) (n : Nat) (P : Nat → Plc) (r : ByteArray) : Prop := (1 ≤ z ∧ z ≤ 1024 ∧ n = pcsN z.toNat ∧ r.size = 32) ∧ ∀ i, i < n → PlOne P i
theorem SupOk.n16 {z : Int} {n : Nat} {P : Nat → Plc} {r : ByteArray} (h : SupOk z n P r) : n ≤ 16 := by
  have h1 := h.1
  rw [h1.2.2.1]
  exact pcsN_le (by omega)
def FoundPc (n : Nat) (Bad : Nat → Prop) (e : Ending) : Prop := ∃ z : Int, e = .returned (.int .i64 z) ∧ ((0 ≤ z ∧ ∃ i, i < n ∧ Bad i) ∨ (z = -1 ∧ ∀ i, i < n → ¬ Bad i))
set_option maxRecDepth 100000 in
theorem cloPc (x v k : Int) (sb : Nat) (w : World) (hk : w.cell? ⟨sb, 0, none⟩ = some (.int .i64 k)) (z : Bool) (hz : z = gB (x = k)) :
    Calls Tryz.prog 50 #[.agg #[.int .i64 x, .int .i64 v], .pointer (some ⟨sb, 0, none⟩)] w fun e w' => e = .returned (.bool z) ∧ Below w.heap.size w w' := by
  have hb : Below w.heap.size w (w.alloc (.cells #[.int .i64 x, .int .i64 v] 36)) := (Below.refl _ _).alloc (Nat.le_refl _) _
  have hk2 : (w.alloc (.cells #[.int .i64 x, .int .i64 v] 36)).cell? ⟨sb, 0, none⟩ = some (.int .i64 k) := by rw [hb.cell (strBlock hk)]; exact hk
  have HB : Hid (Below w.heap.size w (w.alloc (.cells #[.int .i64 x, .int .i64 v] 36))) := hb
  by_cases e : x = k
  · obtain rfl : z = true := by rw [hz]; exact gB_yes e
    subst e
    clear hz hb hk
    go_enter Tryz.func50, Tryz.ntmps50
    go_wp2
    go_ret
    exact ⟨rfl, HB.out⟩
  · obtain rfl : z = false := by rw [hz]; exact gB_no e
    have e1 : (x == k) = false := by simp [e]
    clear hz hb hk e
    go_enter Tryz.func50, Tryz.ntmps50
    go_wp2
    go_ret
    exact ⟨rfl, HB.out⟩
set_option maxRecDepth 100000 in
set_option maxHeartbeats 1000000 in
theorem indexPc (sb : Nat) (a : Option Addr) (n c : Nat) (R : Nat → Plc) (Bad : Nat → Prop) (hn : n ≤ 1048576) (w : World) (h : Els w 2 a n (pcF R))
    (hcl : ∀ i, i < n → ∀ u : World, Below w.heap.size w u → Calls Tryz.prog 50 #[.agg #[.int .i64 (R i).bk, .int .i64 (R i).vs], .pointer (some ⟨sb, 0, none⟩)] u fun e u' => e = .returned (.bool (gB (Bad i))) ∧ Below u.heap.size u u') :
    Calls Tryz.prog 65 #[.slice a n c, .func (.func 50) #[] #[.pointer (some ⟨sb, 0, none⟩)]] w fun e w' => FoundPc n Bad e ∧ Below w.heap.size w w' := by
  have H : Hid (Els w 2 a n (pcF R)) := h
  have HC : Hid (∀ i, i < n → ∀ u : World, Below w.heap.size w u → Calls Tryz.prog 50 #[.agg #[.int .i64 (R i).bk, .int .i64 (R i).vs], .pointer (some ⟨sb, 0, none⟩)] u fun e u' => e = .returned (.bool (gB (Bad i))) ∧ Below u.heap.size u u') := hcl
  clear h hcl
  go_enter Tryz.func65, Tryz.ntmps65
  go_wp2
  go_loopw [8] (fun i wr => ∃ k : Nat, k ≤ n ∧ i = .int .i64 k ∧ (∀ j, j < k → ¬ Bad j) ∧ Below w.heap.size w wr) (fun i _ => n - (intOf i).toNat)
  case atStart => exact ⟨0, by omega, rfl, fun j hj => absurd hj (by omega), Below.refl _ _⟩
  case round =>
    obtain ⟨k, hk, rfl, hok, hb⟩ := hrel
    have HB : Hid (Below w.heap.size w wr) := hb
    have HK : Hid (∀ j, j < k → ¬ Bad j) := hok
    clear hok
    by_cases hlt : k < n
    · have hlt' : (k : Int) < (n : Int) := by omega
      obtain ⟨b, off, rfl, hc⟩ := (H.out.below hb).opened (by omega)
      have c0 : wr.cell? ⟨b, off + k * 2, none⟩ = some (.int .i64 (R k).bk) := hc k hlt 0 (by omega)
      have c1 : wr.cell? ⟨b, off + k * 2 + 1, none⟩ = some (.int .i64 (R k).vs) := hc k hlt 1 (by omega)
      have WM := HC.out k hlt wr hb
      by_cases ho : Bad k
      · rw [gB_yes ho] at WM
        have W1 : Hid _ := WM
        have HF : Hid (FoundPc n Bad (.returned (.int .i64 (k : Int)))) := ⟨k, rfl, .inl ⟨by omega, k, hlt, ho⟩⟩
        clear hc hb WM ho
        generalize R k = rk at *
        go_wp2_with fail
        refine Calls.mono W1.out ?_
        rintro e w1 ⟨rfl, hb⟩
        have B1 : Hid (Below w.heap.size w w1) := HB.out.trans (hb.mono HB.out.size)
        clear hb HB W1 c0 c1
        go_wp2
        go_ret
        exact ⟨HF.out, B1.out⟩
      · rw [gB_no ho] at WM
        have W1 : Hid _ := WM
        have HO : Hid (∀ j, j < k + 1 → ¬ Bad j) := fun j hj => by
          rcases Nat.lt_or_ge j k with q | q
          · exact HK.out j q
          · obtain rfl : j = k := by omega
            exact ho
        clear hc hb WM ho
        generalize R k = rk at *
        go_wp2_with fail
        refine Calls.mono W1.out ?_
        rintro e w1 ⟨rfl, hb⟩
        have B1 : Hid (Below w.heap.size w w1) := HB.out.trans (hb.mono HB.out.size)
        clear hb HB W1 c0 c1
        go_wp2
        go_roundw
        case rel => exact ⟨k + 1, by omega, by go_num, HO.out, B1.out⟩
        case measure => simp [intOf]; omega
    · have hlt' : ¬ (k : Int) < (n : Int) := by omega
      have HF : Hid (FoundPc n Bad (.returned (.int .i64 (-1)))) := ⟨-1, rfl, .inr ⟨rfl, fun j hj => HK.out j (by omega)⟩⟩
      clear hb
      go_wp2
      go_ret
      exact ⟨HF.out, HB.out⟩
set_option maxRecDepth 100000 in
theorem containsPc (sb : Nat) (a : Option Addr) (n c : Nat) (R : Nat → Plc) (Bad : Nat → Prop) (hn : n ≤ 1048576) (w : World) (h : Els w 2 a n (pcF R))
    (hcl : ∀ i, i < n → ∀ u : World, Below w.heap.size w u → Calls Tryz.prog 50 #[.agg #[.int .i64 (R i).bk, .int .i64 (R i).vs], .pointer (some ⟨sb, 0, none⟩)] u fun e u' => e = .returned (.bool (gB (Bad i))) ∧ Below u.heap.size u u') (z : Bool) (hz : z = gB (∃ i, i < n ∧ Bad i)) :
    Calls Tryz.prog 49 #[.slice a n c, .func (.func 50) #[] #[.pointer (some ⟨sb, 0, none⟩)]] w fun e w' => e = .returned (.bool z) ∧ Below w.heap.size w w' := by
  have IX : Hid (Calls Tryz.prog 65 #[.slice a n c, .func (.func 50) #[] #[.pointer (some ⟨sb, 0, none⟩)]] w fun e w' => FoundPc n Bad e ∧ Below w.heap.size w w') := indexPc sb a n c R Bad hn w h hcl
  have HZ : Hid (z = gB (∃ i, i < n ∧ Bad i)) := hz
  clear h hz hcl
  go_enter Tryz.func49, Tryz.ntmps49
  go_wp2_with fail
  refine IX.out.mono ?_
  rintro e w1 ⟨⟨r, rfl, hr⟩, hb⟩
  have HB : Hid (Below w.heap.size w w1) := hb
  rcases hr with ⟨h0, h1⟩ | ⟨rfl, h1⟩
  · have HZ2 : Hid (z = true) := HZ.out.trans (gB_yes h1)
    clear h1 hb
    go_wp2
    go_ret
    exact ⟨by rw [HZ2.out]; rfl, HB.out⟩
  · have HZ2 : Hid (z = false) := HZ.out.trans (gB_no (fun ⟨i, hi, q⟩ => h1 i hi q))
    clear h1 hb
    go_wp2
    go_ret
    exact ⟨by rw [HZ2.out]; rfl, HB.out⟩
set_option maxRecDepth 100000 in
theorem hasBlock_any (a : Option Addr) (n c : Nat) (P : Nat → Plc) (k : Int) (hn : n ≤ 1048576) (w : World) (h : Els w 2 a n (pcF P)) (z : Bool) (hz : z = gB (∃ i, i < n ∧ (P i).bk = k)) :
    Calls Tryz.prog 29 #[.slice a n c, .int .i64 k] w fun e w' => e = .returned (.bool z) ∧ Below w.heap.size w w' := by
  have hb : Below w.heap.size w (w.alloc (.cells #[.int .i64 k] 3)) := (Below.refl _ _).alloc (Nat.le_refl _) _
  have hk : (w.alloc (.cells #[.int .i64 k] 3)).cell? ⟨w.heap.size, 0, none⟩ = some (.int .i64 k) := (World.rowIs_alloc w #[.int .i64 k] 3 (fun _ => .int .i64 k) (fun i hi => by
    obtain rfl : i = 0 := by simpa using hi
    rfl)).cell (i := 0) (by simp)
  have CF : Hid (Calls Tryz.prog 49 #[.slice a n c, .func (.func 50) #[] #[.pointer (some ⟨w.heap.size, 0, none⟩)]] (w.alloc (.cells #[.int .i64 k] 3)) fun e w' => e = .returned (.bool z) ∧ Below (w.alloc (.cells #[.int .i64 k] 3)).heap.size (w.alloc (.cells #[.int .i64 k] 3)) w') := containsPc w.heap.size a n c P (fun i => (P i).bk = k) hn _ (h.below hb) (fun i hi u hu => cloPc _ _ k w.heap.size u (by rw [hu.cell (strBlock hk)]; exact hk) _ rfl) z hz
  have HB : Hid (Below w.heap.size w (w.alloc (.cells #[.int .i64 k] 3))) := hb
  clear hb hk h hz
  go_enter Tryz.func29, Tryz.ntmps29
  go_wp2_with fail
  generalize (w.alloc (.cells #[.int .i64 k] 3)) = v at *
  refine CF.out.mono ?_
  rintro e w1 ⟨rfl, hb⟩
  have HB1 : Hid (Below w.heap.size w w1) := HB.out.trans (hb.mono HB.out.size)
  clear hb CF HB
  go_wp2
  go_ret
  exact ⟨rfl, HB1.out⟩
set_option maxRecDepth 100000 in
theorem isVersion_any (x : Int) (r : Bool) (hr : r = decide (1 ≤ x ∧ x ≤ 65535)) (w : World) :
    Calls Tryz.prog 48 #[.int .i64 x] w fun e w' => e = .returned (.bool r) ∧ w = w' := by
  by_cases h1 : 1 ≤ x
  · by_cases h2 : x ≤ 65535
    · obtain rfl : r = true := by rw [hr]; simp; omega
      clear hr
      go_enter Tryz.func48, Tryz.ntmps48
      go_wp2
      go_ret
      exact ⟨rfl, rfl⟩
    · obtain rfl : r = false := by rw [hr]; simp; omega
      clear hr
      go_enter Tryz.func48, Tryz.ntmps48
      go_wp2
      go_ret
      exact ⟨rfl, rfl⟩
  · obtain rfl : r = false := by rw [hr]; simp; omega
    clear hr
    go_enter Tryz.func48, Tryz.ntmps48
    go_wp2
    go_ret
    exact ⟨rfl, rfl⟩
set_option maxRecDepth 100000 in
theorem placeOK_any (x v : Int) (z : Bool) (hz : z = gB ((⟨x, v⟩ : Plc).Ok)) (w : World) :
    Calls Tryz.prog 28 #[.agg #[.int .i64 x, .int .i64 v]] w fun e w' => e = .returned (.bool z) ∧ Below w.heap.size w w' := by
  have HB : Hid (Below w.heap.size w (w.alloc (.cells #[.int .i64 x, .int .i64 v] 36))) := (Below.refl _ _).alloc (Nat.le_refl _) _
  by_cases h1 : 2 ≤ x
  · by_cases h2 : x < 64
    · have IV : Hid (∀ w : World, Calls Tryz.prog 48 #[.int .i64 v] w fun e w' => e = .returned (.bool z) ∧ w = w') := fun w => isVersion_any v z (by
        rw [hz]
        by_cases q : 1 ≤ v ∧ v ≤ 65535
        · rw [gB_yes ⟨⟨h1, h2⟩, q⟩]; simp [q]
        · rw [gB_no (fun t => q t.2)]; simp [q]) w
      clear hz
      go_enter Tryz.func28, Tryz.ntmps28
      go_wp2_with fail
      refine (IV.out _).mono ?_
      rintro e _ ⟨rfl, rfl⟩
      go_wp2
      go_ret
      exact ⟨rfl, HB.out⟩
    · obtain rfl : z = false := by rw [hz]; exact gB_no (fun t => h2 t.1.2)
      clear hz
      go_enter Tryz.func28, Tryz.ntmps28
      go_wp2
      go_ret
      exact ⟨rfl, HB.out⟩
  · obtain rfl : z = false := by rw [hz]; exact gB_no (fun t => h1 t.1.1)
    clear hz
    go_enter Tryz.func28, Tryz.ntmps28
    go_wp2
    go_ret
    exact ⟨rfl, HB.out⟩
end Go.Proofs.YtkmakpbphdjbcaaGreatDoor
namespace Go.Proofs.YtkmakpbphdjbcaaGreatDoor
open Go.ChangeShapes Go.WideShapes Go.ChangeAt Go.RowKit
set_option linter.unusedVariables false
theorem Box3.loadSup {w : World} {b : Nat} {x y z : Value} (h : Box3 w b 25 x y z) : (loadVar 25 ⟨b, 0, none⟩).run Tryz.prog w = .ok (.agg #[x, y, z]) w := by
  have h0 := h.c0
  have h1 := h.c1
  have h2 := h.c2
  go_simp
end Go.Proofs.YtkmakpbphdjbcaaGreatDoor
