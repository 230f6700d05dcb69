/-
  Rows of texts and of writes of a call's own; the laws' marks on disks, and whether they are held.
-/
import Derived.Test.YtgdfhgepbamhmaaDoorDiskDefs
import Derived.Deep.RegionWith
namespace Go.Proofs.YtgdfhgepbamhmaaDoor
open Go.ChangeShapes Go.WideShapes Go.ChangeAt Go.RowKit
/-- The texts of a slice of n lie in block g from its head on and may be written. -/
structure RowS (w : World) (a : Option Addr) (g n : Nat) (f : Nat → ByteArray) : Prop where
  a : 0 < n → a = some ⟨g, 0, none⟩
  c : ∀ i, i < n → w.cell? ⟨g, i, none⟩ = some (.string (f i))
  z : ∀ i, i < n → w.frozen? ⟨g, i, none⟩ = false
structure RowP (w : World) (a : Option Addr) (g n : Nat) (A : Nat → Int) (D : Nat → ByteArray) : Prop where
  a : 0 < n → a = some ⟨g, 0, none⟩
  c : ∀ i, i < n → w.cell? ⟨g, i * 2, none⟩ = some (.int .i64 (A i))
  d : ∀ i, i < n → w.cell? ⟨g, i * 2 + 1, none⟩ = some (.string (D i))
  z : ∀ i, i < n * 2 → w.frozen? ⟨g, i, none⟩ = false
theorem cellOf {w w' : World} {g i : Nat} (e : w'.heap[g]? = w.heap[g]?) : w'.cell? ⟨g, i, none⟩ = w.cell? ⟨g, i, none⟩ := by simp [World.cell?, e]
theorem frozenOf {w w' : World} {g i : Nat} (e : w'.heap[g]? = w.heap[g]?) : w'.frozen? ⟨g, i, none⟩ = w.frozen? ⟨g, i, none⟩ := by simp [World.frozen?, e]
theorem RowS.ofBlock {w w' : World} {a : Option Addr} {g n : Nat} {f : Nat → ByteArray} (h : RowS w a g n f) (e : 0 < n → w'.heap[g]? = w.heap[g]?) : RowS w' a g n f :=
  ⟨h.a, fun i hi => by rw [cellOf (e (by omega))]; exact h.c i hi, fun i hi => by rw [frozenOf (e (by omega))]; exact h.z i hi⟩
theorem RowS.lt {w : World} {a : Option Addr} {g n : Nat} {f : Nat → ByteArray} (h : RowS w a g n f) (hn : 0 < n) : g < w.heap.size := strBlock (h.c 0 hn)
theorem RowS.below {w w' : World} {a : Option Addr} {g n : Nat} {f : Nat → ByteArray} (h : RowS w a g n f) (hb : Below w.heap.size w w') : RowS w' a g n f := h.ofBlock (fun hn => hb.block g (h.lt hn))
theorem RowS.onlyB {w w' : World} {a : Option Addr} {g b n : Nat} {f : Nat → ByteArray} (h : RowS w a g n f) (ho : OnlyB b w w') (hne : 0 < n → g ≠ b) : RowS w' a g n f := h.ofBlock (fun hn => ho.block g (h.lt hn) (hne hn))
theorem RowS.congr {w : World} {a : Option Addr} {g n : Nat} {f f' : Nat → ByteArray} (h : RowS w a g n f) (e : ∀ i, i < n → f i = f' i) : RowS w a g n f' := ⟨h.a, fun i hi => by rw [← e i hi]; exact h.c i hi, h.z⟩
theorem RowS.strs {w : World} {a : Option Addr} {g n : Nat} {f : Nat → ByteArray} (h : RowS w a g n f) : Strs w a n f := fun i hi => ⟨g, 0, h.a (by omega), by rw [Nat.zero_add]; exact h.c i hi⟩
theorem RowS.nil (w : World) (a : Option Addr) (g : Nat) (f : Nat → ByteArray) : RowS w a g 0 f := ⟨fun h => absurd h (by omega), fun i hi => absurd hi (by omega), fun i hi => absurd hi (by omega)⟩
theorem RowS.ofRow {w : World} {g m n : Nat} {t : TypeId} {f : Nat → ByteArray} {F : Nat → Value} (h : w.rowIs g t m F) (hn : n ≤ m) (e : ∀ i, i < n → F i = .string (f i)) : RowS w (some ⟨g, 0, none⟩) g n f := ⟨fun _ => rfl, fun i hi => by rw [h.cell (by omega), e i hi], fun i _ => h.frozen i⟩
theorem RowS.set {w : World} {a : Option Addr} {g n : Nat} {f : Nat → ByteArray} (h : RowS w a g n f) (k : Nat) (s : ByteArray) : RowS (w.setCell ⟨g, k, none⟩ (.string s)) a g n (fun i => if i = k then s else f i) :=
  ⟨h.a, fun i hi => by
    by_cases e : i = k
    · subst e
      rw [if_pos rfl]
      exact World.cell?_setCell_same _ _ _ (h.c i hi)
    · rw [if_neg e]
      exact (World.cell?_setCell_other _ ⟨g, k, none⟩ ⟨g, i, none⟩ _ (fun q => e (congrArg Addr.off q).symm)).trans (h.c i hi), fun i hi => by rw [World.frozen?_setCell]; exact h.z i hi⟩
theorem RowP.ofBlock {w w' : World} {a : Option Addr} {g n : Nat} {A : Nat → Int} {D : Nat → ByteArray} (h : RowP w a g n A D) (e : 0 < n → w'.heap[g]? = w.heap[g]?) : RowP w' a g n A D :=
  ⟨h.a, fun i hi => by rw [cellOf (e (by omega))]; exact h.c i hi, fun i hi => by rw [cellOf (e (by omega))]; exact h.d i hi, fun i hi => by rw [frozenOf (e (by omega))]; exact h.z i hi⟩
theorem RowP.lt {w : World} {a : Option Addr} {g n : Nat} {A : Nat → Int} {D : Nat → ByteArray} (h : RowP w a g n A D) (hn : 0 < n) : g < w.heap.size := strBlock (h.c 0 hn)
theorem RowP.below {w w' : World} {a : Option Addr} {g n : Nat} {A : Nat → Int} {D : Nat → ByteArray} (h : RowP w a g n A D) (hb : Below w.heap.size w w') : RowP w' a g n A D := h.ofBlock (fun hn => hb.block g (h.lt hn))
theorem RowP.onlyB {w w' : World} {a : Option Addr} {g b n : Nat} {A : Nat → Int} {D : Nat → ByteArray} (h : RowP w a g n A D) (ho : OnlyB b w w') (hne : 0 < n → g ≠ b) : RowP w' a g n A D := h.ofBlock (fun hn => ho.block g (h.lt hn) (hne hn))
theorem RowP.congr {w : World} {a : Option Addr} {g n : Nat} {A A' : Nat → Int} {D D' : Nat → ByteArray} (h : RowP w a g n A D) (e : ∀ i, i < n → A i = A' i ∧ D i = D' i) : RowP w a g n A' D' := ⟨h.a, fun i hi => by rw [← (e i hi).1]; exact h.c i hi, fun i hi => by rw [← (e i hi).2]; exact h.d i hi, h.z⟩
theorem RowP.pens {w : World} {a : Option Addr} {g n : Nat} {A : Nat → Int} {D : Nat → ByteArray} (h : RowP w a g n A D) : Pens w a n A D := fun i hi => ⟨g, 0, h.a (by omega), by rw [Nat.zero_add]; exact h.c i hi, by rw [Nat.zero_add]; exact h.d i hi⟩
theorem RowP.nil (w : World) (a : Option Addr) (g : Nat) (A : Nat → Int) (D : Nat → ByteArray) : RowP w a g 0 A D := ⟨fun h => absurd h (by omega), fun i hi => absurd hi (by omega), fun i hi => absurd hi (by omega), fun i hi => absurd hi (by omega)⟩
theorem RowP.set {w : World} {a : Option Addr} {g n : Nat} {A : Nat → Int} {D : Nat → ByteArray} (h : RowP w a g n A D) (k : Nat) (x : Int) (s : ByteArray) : RowP ((w.setCell ⟨g, k * 2, none⟩ (.int .i64 x)).setCell ⟨g, k * 2 + 1, none⟩ (.string s)) a g n (fun i => if i = k then x else A i) (fun i => if i = k then s else D i) :=
  ⟨h.a, fun i hi => by
    refine (World.cell?_setCell_other _ ⟨g, k * 2 + 1, none⟩ ⟨g, i * 2, none⟩ _ (fun q => by have := congrArg Addr.off q; simp at this; omega)).trans ?_
    by_cases e : i = k
    · subst e
      rw [if_pos rfl]
      exact World.cell?_setCell_same _ _ _ (h.c i hi)
    · rw [if_neg e]
      exact (World.cell?_setCell_other _ ⟨g, k * 2, none⟩ ⟨g, i * 2, none⟩ _ (fun q => by have := congrArg Addr.off q; simp at this; omega)).trans (h.c i hi), fun i hi => by
    have h1 : (w.setCell ⟨g, k * 2, none⟩ (.int .i64 x)).cell? ⟨g, i * 2 + 1, none⟩ = some (.string (D i)) := (World.cell?_setCell_other _ ⟨g, k * 2, none⟩ ⟨g, i * 2 + 1, none⟩ _ (fun q => by have := congrArg Addr.off q; simp at this; omega)).trans (h.d i hi)
    by_cases e : i = k
    · subst e
      rw [if_pos rfl]
      exact World.cell?_setCell_same _ _ _ (h1)
    · rw [if_neg e]
      exact (World.cell?_setCell_other _ ⟨g, k * 2 + 1, none⟩ ⟨g, i * 2 + 1, none⟩ _ (fun q => by have := congrArg Addr.off q; simp at this; omega)).trans h1, fun i hi => by rw [World.frozen?_setCell, World.frozen?_setCell]; exact h.z i hi⟩
/-- A disk in rows of a call's own: the three blocks. -/
structure RowD (w : World) (d : Dk) (a0 a1 a2 : Option Addr) (g0 g1 g2 : Nat) : Prop where
  s0 : RowS w a0 g0 d.nb d.B
  s1 : RowP w a1 g1 d.nc d.A d.D
  s2 : RowS w a2 g2 d.ns d.S
  n01 : 0 < d.nb → 0 < d.nc → g0 ≠ g1
  n02 : 0 < d.nb → 0 < d.ns → g0 ≠ g2
  n12 : 0 < d.nc → 0 < d.ns → g1 ≠ g2
theorem RowD.diskV {w : World} {d : Dk} {a0 a1 a2 : Option Addr} {g0 g1 g2 : Nat} (h : RowD w d a0 a1 a2 g0 g1 g2) : DiskV w d a0 a1 a2 := ⟨h.s0.strs, h.s1.pens, h.s2.strs⟩
theorem RowD.below {w w' : World} {d : Dk} {a0 a1 a2 : Option Addr} {g0 g1 g2 : Nat} (h : RowD w d a0 a1 a2 g0 g1 g2) (hb : Below w.heap.size w w') : RowD w' d a0 a1 a2 g0 g1 g2 := ⟨h.s0.below hb, h.s1.below hb, h.s2.below hb, h.n01, h.n02, h.n12⟩
/-- Only block g has changed, and nothing that was there if there are no elements. -/
def Turned (g n : Nat) (w w' : World) : Prop := OnlyB g w w' ∧ (n = 0 → Below w.heap.size w w')
theorem Turned.block {g n b : Nat} {w w' : World} (h : Turned g n w w') (hb : b < w.heap.size) (hne : 0 < n → b ≠ g) : w'.heap[b]? = w.heap[b]? := by
  rcases Nat.eq_zero_or_pos n with z | z
  · exact (h.2 z).block b hb
  · exact h.1.block b hb (hne z)
theorem Turned.toBelow {g n B : Nat} {w w' : World} (h : Turned g n w w') (hB : 0 < n → B ≤ g) (hw : B ≤ w.heap.size) : Below B w w' := by
  rcases Nat.eq_zero_or_pos n with z | z
  · exact (h.2 z).mono hw
  · exact h.1.toBelow (hB z) hw
theorem RowS.turned {w w' : World} {a : Option Addr} {g n b m : Nat} {f : Nat → ByteArray} (h : RowS w a g n f) (ho : Turned b m w w') (hne : 0 < n → 0 < m → g ≠ b) : RowS w' a g n f := h.ofBlock (fun hn => ho.block (h.lt hn) (hne hn))
theorem RowP.turned {w w' : World} {a : Option Addr} {g n b m : Nat} {A : Nat → Int} {D : Nat → ByteArray} (h : RowP w a g n A D) (ho : Turned b m w w') (hne : 0 < n → 0 < m → g ≠ b) : RowP w' a g n A D := h.ofBlock (fun hn => ho.block (h.lt hn) (hne hn))
theorem Box3.turned {w w' : World} {b g n : Nat} {t : TypeId} {x y z : Value} (h : Box3 w b t x y z) (ho : Turned g n w w') (hne : 0 < n → b ≠ g) : Box3 w' b t x y z := h.ofBlock (ho.block h.lt hne)
/-- The marks of a disk from k on. -/
def markK (d : Dk) (k : Nat) : Dk := ⟨d.nb, fun i => mt (k + i), d.nc, fun i => ((k + d.nb + 2 * i : Nat) : Int), fun i => mt (k + d.nb + 2 * i + 1), d.ns, fun i => mt (k + d.nb + 2 * d.nc + i)⟩
set_option maxRecDepth 100000 in
set_option maxHeartbeats 1000000 in
theorem markStrK (a : Option Addr) (g n c k : Nat) (f : Nat → ByteArray) (hk : 1 ≤ k) (hn : k + n ≤ 10000000) (w : World) (h : RowS w a g n f) :
    Calls Tryd.prog 30 #[.slice a n c, .int .i64 (k : Int)] w fun e w' => e = .returned (.int .i64 ((k + n : Nat) : Int)) ∧ RowS w' a g n (fun i => mt (k + i)) ∧ Turned g n w w' := by
  have H : Hid (RowS w a g n f) := h
  clear h
  go_enter Tryd.func30, Tryd.ntmps30
  go_wp2
  go_loopw [1, 5] (fun kv i wr => ∃ q : Nat, q ≤ n ∧ i = .int .i64 q ∧ kv = .int .i64 ((k + q : Nat) : Int) ∧ RowS wr a g n (fun i => if i < q then mt (k + i) else f i) ∧ Turned g n w wr) (fun _ i _ => n - (intOf i).toNat)
  case atStart => exact ⟨0, by omega, rfl, rfl, H.out.congr (fun j hj => by rw [if_neg (by omega)]), OnlyB.refl _ _, fun _ => Below.refl _ _⟩
  case round =>
    obtain ⟨q, hq, rfl, rfl, hrow, ho⟩ := hrel
    by_cases hlt : q < n
    · have MT : Hid (∀ w : World, Calls Tryd.prog 28 #[.int .i64 ((k + q : Nat) : Int)] w fun e w' => e = .returned (.string (mt (k + q))) ∧ Below w.heap.size w w') := markText_any (k + q) (by omega) (by omega)
      have HRW : Hid (RowS wr a g n (fun i => if i < q then mt (k + i) else f i)) := hrow
      have HO : Hid (OnlyB g w wr) := ho.1
      have hlt' : (q : Int) < (n : Int) := by omega
      obtain rfl := hrow.a (by omega)
      clear hrow ho
      go_wp2_with fail
      refine (MT.out _).mono ?_
      rintro e w1 ⟨rfl, hb⟩
      have hrow := HRW.out.below hb
      have g1 := hrow.c q hlt
      rw [if_neg (by omega)] at g1
      have f1 := hrow.z q hlt
      have HR1 : Hid (RowS w1 (some ⟨g, 0, none⟩) g n (fun i => if i < q then mt (k + i) else f i)) := hrow
      have HO1 : Hid (OnlyB g w w1) := HO.out.below hb
      clear hrow hb HRW HO MT
      go_wp2
      go_roundw
      case rel =>
        refine ⟨q + 1, by omega, by go_num, by go_num, ?_, HO1.out.setCell _ _, fun z => absurd z (by omega)⟩
        exact (HR1.out.set q _).congr (fun j hj => by
          by_cases e : j = q
          · subst e; rw [if_pos rfl, if_pos (by omega)]
          · rw [if_neg e]
            by_cases h1 : j < q
            · rw [if_pos h1, if_pos (by omega)]
            · rw [if_neg h1, if_neg (by omega)])
      case measure => simp [intOf]; omega
    · obtain rfl : q = n := by omega
      have HF : Hid (RowS wr a g q (fun i => mt (k + i))) := hrow.congr (fun j hj => by rw [if_pos hj])
      have HO : Hid (Turned g q w wr) := ho
      clear hrow ho
      go_wp2
      go_ret
      exact ⟨rfl, HF.out, HO.out⟩
set_option maxRecDepth 100000 in
set_option maxHeartbeats 1000000 in
theorem heldStrK (a : Option Addr) (n c k : Nat) (hk : 1 ≤ k) (hn : k + n ≤ 10000000) (w : World) (h : Strs w a n (fun i => mt (k + i))) :
    Calls Tryd.prog 32 #[.slice a n c, .int .i64 (k : Int)] w fun e w' => e = .returned (.int .i64 ((k + n : Nat) : Int)) ∧ Below w.heap.size w w' := by
  have H : Hid (Strs w a n (fun i => mt (k + i))) := h
  clear h
  go_enter Tryd.func32, Tryd.ntmps32
  go_wp2
  go_loopw [1, 5] (fun kv i wr => ∃ q : Nat, q ≤ n ∧ i = .int .i64 q ∧ kv = .int .i64 ((k + q : Nat) : Int) ∧ Below w.heap.size w wr) (fun _ i _ => n - (intOf i).toNat)
  case atStart => exact ⟨0, by omega, rfl, rfl, Below.refl _ _⟩
  case round =>
    obtain ⟨q, hq, rfl, rfl, hb⟩ := hrel
    have HB : Hid (Below w.heap.size w wr) := hb
    by_cases hlt : q < n
    · obtain ⟨b, off, rfl, hc⟩ := (H.out.below hb).opened (by omega)
      have c1 := hc q hlt
      have hlt' : (q : Int) < (n : Int) := by omega
      have MT : Hid (∀ w : World, Calls Tryd.prog 28 #[.int .i64 ((k + q : Nat) : Int)] w fun e w' => e = .returned (.string (mt (k + q))) ∧ Below w.heap.size w w') := markText_any (k + q) (by omega) (by omega)
      generalize mt (k + q) = V at *
      have c1d : Hid (wr.drew.cell? ⟨b, off + q, none⟩ = some (.string V)) := c1
      clear hc hb
      go_wp2_with fail
      go_region_with (go_at_call 28; refine (MT.out _).mono ?_; rintro e w' ⟨rfl, hb⟩; have c2 : w'.cell? ⟨b, off + q, none⟩ = some (.string V) := (hb.cell (strBlock c1d.out)).trans c1d.out)
      all_goals
        have B1 : Hid (Below w.heap.size w w') := HB.out.drew.trans (hb.mono HB.out.size)
        clear hb HB MT c1 c1d
        dsimp only [Act.put]
        go_wp2
        go_roundw
        case rel => exact ⟨q + 1, by omega, by go_num, by go_num, B1.out⟩
        case measure => simp [intOf]; omega
    · obtain rfl : q = n := by omega
      clear hb
      go_wp2
      go_ret
      exact ⟨rfl, HB.out⟩
set_option maxRecDepth 100000 in
set_option maxHeartbeats 1000000 in
theorem markPenK (a : Option Addr) (g n c k : Nat) (A : Nat → Int) (D : Nat → ByteArray) (hk : 1 ≤ k) (hn : k + 2 * n ≤ 10000000) (w : World) (h : RowP w a g n A D) :
    Calls Tryd.prog 31 #[.slice a n c, .int .i64 (k : Int)] w fun e w' => e = .returned (.int .i64 ((k + 2 * n : Nat) : Int)) ∧ RowP w' a g n (fun i => ((k + 2 * i : Nat) : Int)) (fun i => mt (k + 2 * i + 1)) ∧ Turned g n w w' := by
  have H : Hid (RowP w a g n A D) := h
  clear h
  go_enter Tryd.func31, Tryd.ntmps31
  go_wp2
  go_loopw [1, 5] (fun kv i wr => ∃ q : Nat, q ≤ n ∧ i = .int .i64 q ∧ kv = .int .i64 ((k + 2 * q : Nat) : Int) ∧ RowP wr a g n (fun i => if i < q then ((k + 2 * i : Nat) : Int) else A i) (fun i => if i < q then mt (k + 2 * i + 1) else D i) ∧ Turned g n w wr) (fun _ i _ => n - (intOf i).toNat)
  case atStart => exact ⟨0, by omega, rfl, rfl, H.out.congr (fun j hj => by rw [if_neg (by omega), if_neg (by omega)]; exact ⟨rfl, rfl⟩), OnlyB.refl _ _, fun _ => Below.refl _ _⟩
  case round =>
    obtain ⟨q, hq, rfl, rfl, hrow, ho⟩ := hrel
    by_cases hlt : q < n
    · obtain ⟨m, hm⟩ : ∃ m, m = k + 2 * q := ⟨_, rfl⟩
      have MT : Hid (∀ w : World, Calls Tryd.prog 28 #[.int .i64 ((m : Int) + 1)] w fun e w' => e = .returned (.string (mt (m + 1))) ∧ Below w.heap.size w w') := fun w => by
        have := markText_any (m + 1) (by omega) (by omega) w
        rwa [show ((m + 1 : Nat) : Int) = (m : Int) + 1 from by omega] at this
      rw [← hm]
      have hlt' : (q : Int) < (n : Int) := by omega
      obtain rfl := hrow.a (by omega)
      have c1 := hrow.c q hlt
      have d1 := hrow.d q hlt
      rw [if_neg (by omega)] at c1 d1
      have f0 := hrow.z (q * 2) (by omega)
      have f1 := hrow.z (q * 2 + 1) (by omega)
      have HRW : Hid (RowP wr (some ⟨g, 0, none⟩) g n (fun i => if i < q then ((k + 2 * i : Nat) : Int) else A i) (fun i => if i < q then mt (k + 2 * i + 1) else D i)) := hrow
      have HO : Hid (OnlyB g w wr) := ho.1
      have HM : Hid (m = k + 2 * q) := hm
      have m1 : (m : Int) ≤ 10000000 := by omega
      have m0 : (0 : Int) ≤ (m : Int) := by omega
      clear hrow ho hm
      go_wp2_with fail
      have c2 : (wr.setCell ⟨g, q * 2, none⟩ (.int .i64 (m : Int))).cell? ⟨g, q * 2 + 1, none⟩ = some (.string (D q)) := (World.cell?_setCell_other _ ⟨g, q * 2, none⟩ ⟨g, q * 2 + 1, none⟩ _ (fun q => by have := congrArg Addr.off q; simp at this)).trans d1
      have f2 : (wr.setCell ⟨g, q * 2, none⟩ (.int .i64 (m : Int))).frozen? ⟨g, q * 2 + 1, none⟩ = false := by rw [World.frozen?_setCell]; exact f1
      have SZ : (wr.setCell ⟨g, q * 2, none⟩ (.int .i64 (m : Int))).heap.size = wr.heap.size := by simp
      refine (MT.out _).mono ?_
      rintro e w1 ⟨rfl, hb⟩
      have c3 : w1.cell? ⟨g, q * 2 + 1, none⟩ = some (.string (D q)) := (hb.cell (strBlock c2)).trans c2
      have f3 : w1.frozen? ⟨g, q * 2 + 1, none⟩ = false := (hb.frozen (p := ⟨g, q * 2 + 1, none⟩) (strBlock c2)).trans f2
      have HO1 : Hid (OnlyB g w w1) := (HO.out.setCell (q * 2) (.int .i64 (m : Int))).below hb
      have HR1 : Hid (RowP (w1.setCell ⟨g, q * 2 + 1, none⟩ (.string (mt (m + 1)))) (some ⟨g, 0, none⟩) g n (fun i => if i < q + 1 then ((k + 2 * i : Nat) : Int) else A i) (fun i => if i < q + 1 then mt (k + 2 * i + 1) else D i)) := by
        have h1 : RowP w1 (some ⟨g, 0, none⟩) g n (fun i => if i = q then (m : Int) else (if i < q then ((k + 2 * i : Nat) : Int) else A i)) (fun i => if i < q then mt (k + 2 * i + 1) else D i) := by
          have h0 := HRW.out
          refine RowP.below (w := wr.setCell ⟨g, q * 2, none⟩ (.int .i64 (m : Int))) ⟨h0.a, fun i hi => ?_, fun i hi => ?_, fun i hi => by rw [World.frozen?_setCell]; exact h0.z i hi⟩ hb
          · by_cases e : i = q
            · subst e
              rw [if_pos rfl]
              exact World.cell?_setCell_same _ _ _ (h0.c i hi)
            · rw [if_neg e]
              exact (World.cell?_setCell_other _ ⟨g, q * 2, none⟩ ⟨g, i * 2, none⟩ _ (fun q => by have := congrArg Addr.off q; simp at this; omega)).trans (h0.c i hi)
          · exact (World.cell?_setCell_other _ ⟨g, q * 2, none⟩ ⟨g, i * 2 + 1, none⟩ _ (fun q => by have := congrArg Addr.off q; simp at this; omega)).trans (h0.d i hi)
        refine ⟨h1.a, fun i hi => ?_, fun i hi => ?_, fun i hi => by rw [World.frozen?_setCell]; exact h1.z i hi⟩
        · refine (World.cell?_setCell_other _ ⟨g, q * 2 + 1, none⟩ ⟨g, i * 2, none⟩ _ (fun q => by have := congrArg Addr.off q; simp at this; omega)).trans ((h1.c i hi).trans ?_)
          have := HM.out
          by_cases e : i = q
          · subst e; rw [if_pos rfl, if_pos (by omega), this]
          · rw [if_neg e]
            by_cases l : i < q
            · rw [if_pos l, if_pos (by omega)]
            · rw [if_neg l, if_neg (by omega)]
        · by_cases e : i = q
          · subst e
            rw [if_pos (by omega)]
            have := World.cell?_setCell_same w1 ⟨g, i * 2 + 1, none⟩ (.string (mt (m + 1))) (h1.d i hi)
            rw [this, HM.out]
          · refine (World.cell?_setCell_other _ ⟨g, q * 2 + 1, none⟩ ⟨g, i * 2 + 1, none⟩ _ (fun q => by have := congrArg Addr.off q; simp at this; omega)).trans ((h1.d i hi).trans ?_)
            by_cases l : i < q
            · rw [if_pos l, if_pos (by omega)]
            · rw [if_neg l, if_neg (by omega)]
      have HO2 : Hid (OnlyB g w (w1.setCell ⟨g, q * 2 + 1, none⟩ (.string (mt (m + 1))))) := HO1.out.setCell _ _
      generalize mt (m + 1) = V at *
      clear hb c1 d1 c2 f0 f1 f2 SZ HRW HO HO1 MT
      go_wp2
      go_roundw
      case rel =>
        have := HM.out
        refine ⟨q + 1, by omega, by go_num, numEqS (by omega), HR1.out, HO2.out, fun z => absurd z (by omega)⟩
      case measure => simp [intOf]; omega
    · obtain rfl : q = n := by omega
      have HF : Hid (RowP wr a g q (fun i => ((k + 2 * i : Nat) : Int)) (fun i => mt (k + 2 * i + 1))) := hrow.congr (fun j hj => by rw [if_pos hj, if_pos hj]; exact ⟨rfl, rfl⟩)
      have HO : Hid (Turned g q w wr) := ho
      clear hrow ho
      go_wp2
      go_ret
      exact ⟨rfl, HF.out, HO.out⟩
set_option maxRecDepth 100000 in
set_option maxHeartbeats 1000000 in
theorem heldPenK (a : Option Addr) (n c k : Nat) (hk : 1 ≤ k) (hn : k + 2 * n ≤ 10000000) (w : World) (h : Pens w a n (fun i => ((k + 2 * i : Nat) : Int)) (fun i => mt (k + 2 * i + 1))) :
    Calls Tryd.prog 33 #[.slice a n c, .int .i64 (k : Int)] w fun e w' => e = .returned (.int .i64 ((k + 2 * n : Nat) : Int)) ∧ Below w.heap.size w w' := by
  have H : Hid (Pens w a n (fun i => ((k + 2 * i : Nat) : Int)) (fun i => mt (k + 2 * i + 1))) := h
  clear h
  go_enter Tryd.func33, Tryd.ntmps33
  go_wp2
  go_loopw [1, 5] (fun kv i wr => ∃ q : Nat, q ≤ n ∧ i = .int .i64 q ∧ kv = .int .i64 ((k + 2 * q : Nat) : Int) ∧ Below w.heap.size w wr) (fun _ i _ => n - (intOf i).toNat)
  case atStart => exact ⟨0, by omega, rfl, rfl, Below.refl _ _⟩
  case round =>
    obtain ⟨q, hq, rfl, rfl, hb⟩ := hrel
    have HB : Hid (Below w.heap.size w wr) := hb
    by_cases hlt : q < n
    · obtain ⟨b, off, rfl, hc⟩ := (H.out.below hb).opened (by omega)
      obtain ⟨c1, d1⟩ := hc q hlt
      have hlt' : (q : Int) < (n : Int) := by omega
      obtain ⟨m, hm⟩ : ∃ m, m = k + 2 * q := ⟨_, rfl⟩
      have MT : Hid (∀ w : World, Calls Tryd.prog 28 #[.int .i64 ((m : Int) + 1)] w fun e w' => e = .returned (.string (mt (m + 1))) ∧ Below w.heap.size w w') := fun w => by
        have := markText_any (m + 1) (by omega) (by omega) w
        rwa [show ((m + 1 : Nat) : Int) = (m : Int) + 1 from by omega] at this
      rw [← hm] at c1 d1 ⊢
      generalize mt (m + 1) = V at *
      have HM : Hid (m = k + 2 * q) := hm
      have m1 : (m : Int) ≤ 10000000 := by omega
      have m0 : (0 : Int) ≤ (m : Int) := by omega
      have er : ((m : Int) != (m : Int)) = false := by simp
      have c1d : Hid (wr.drew.cell? ⟨b, off + q * 2 + 1, none⟩ = some (.string V)) := d1
      clear hc hb hm
      go_wp2_with fail
      go_region_with (go_at_call 28; refine (MT.out _).mono ?_; rintro e w' ⟨rfl, hb⟩; have c2 : w'.cell? ⟨b, off + q * 2 + 1, none⟩ = some (.string V) := (hb.cell (strBlock c1d.out)).trans c1d.out)
      all_goals
        have B1 : Hid (Below w.heap.size w w') := HB.out.drew.trans (hb.mono HB.out.size)
        clear hb HB MT c1 d1 c1d
        dsimp only [Act.put]
        go_wp2
        go_roundw
        case rel =>
          have := HM.out
          exact ⟨q + 1, by omega, by go_num, numEqS (by omega), B1.out⟩
        case measure => simp [intOf]; omega
    · obtain rfl : q = n := by omega
      clear hb
      go_wp2
      go_ret
      exact ⟨rfl, HB.out⟩
/-- Of the blocks that were there at most the disk's own have changed. -/
def KeepG (w w' : World) (d : Dk) (g0 g1 g2 : Nat) : Prop := ∀ b, b < w.heap.size → (0 < d.nb → b ≠ g0) → (0 < d.nc → b ≠ g1) → (0 < d.ns → b ≠ g2) → w'.heap[b]? = w.heap[b]?
set_option maxRecDepth 100000 in
set_option maxHeartbeats 2000000 in
/-- laws.markDisk of a disk in rows of a call's own: B is at most each block that has cells. -/
theorem markDisk_any (B : Nat) (d : Dk) (a0 a1 a2 : Option Addr) (c0 c1 c2 g0 g1 g2 k : Nat) (hk : 1 ≤ k) (hn : k + d.nb + 2 * d.nc + d.ns ≤ 10000000) (hB : (0 < d.nb → B ≤ g0) ∧ (0 < d.nc → B ≤ g1) ∧ (0 < d.ns → B ≤ g2)) (w : World) (hw : B ≤ w.heap.size) (h : RowD w d a0 a1 a2 g0 g1 g2) :
    Calls Tryd.prog 12 #[.agg #[.slice a0 d.nb c0, .slice a1 d.nc c1, .slice a2 d.ns c2], .int .i64 (k : Int)] w fun e w' => e = .returned (.int .i64 ((k + d.nb + 2 * d.nc + d.ns : Nat) : Int)) ∧ RowD w' (markK d k) a0 a1 a2 g0 g1 g2 ∧ KeepG w w' d g0 g1 g2 ∧ Below B w w' := by
  have HBB : Hid ((0 < d.nb → B ≤ g0) ∧ (0 < d.nc → B ≤ g1) ∧ (0 < d.ns → B ≤ g2)) := hB
  have S0 : Hid (∀ w : World, RowS w a0 g0 d.nb d.B → Calls Tryd.prog 30 #[.slice a0 d.nb c0, .int .i64 (k : Int)] w fun e w' => e = .returned (.int .i64 ((k + d.nb : Nat) : Int)) ∧ RowS w' a0 g0 d.nb (fun i => mt (k + i)) ∧ Turned g0 d.nb w w') := fun w h => markStrK a0 g0 d.nb c0 k d.B hk (by omega) w h
  have S1 : Hid (∀ w : World, RowP w a1 g1 d.nc d.A d.D → Calls Tryd.prog 31 #[.slice a1 d.nc c1, .int .i64 ((k + d.nb : Nat) : Int)] w fun e w' => e = .returned (.int .i64 ((k + d.nb + 2 * d.nc : Nat) : Int)) ∧ RowP w' a1 g1 d.nc (fun i => ((k + d.nb + 2 * i : Nat) : Int)) (fun i => mt (k + d.nb + 2 * i + 1)) ∧ Turned g1 d.nc w w') := fun w h => markPenK a1 g1 d.nc c1 (k + d.nb) d.A d.D (by omega) (by omega) w h
  have S2 : Hid (∀ w : World, RowS w a2 g2 d.ns d.S → Calls Tryd.prog 30 #[.slice a2 d.ns c2, .int .i64 ((k + d.nb + 2 * d.nc : Nat) : Int)] w fun e w' => e = .returned (.int .i64 ((k + d.nb + 2 * d.nc + d.ns : Nat) : Int)) ∧ RowS w' a2 g2 d.ns (fun i => mt (k + d.nb + 2 * d.nc + i)) ∧ Turned g2 d.ns w w') := fun w h => markStrK a2 g2 d.ns c2 (k + d.nb + 2 * d.nc) d.S (by omega) (by omega) w h
  have A1 : Hid (Below w.heap.size w (w.alloc (.cells #[.slice a0 d.nb c0, .slice a1 d.nc c1, .slice a2 d.ns c2] 27))) := (Below.refl w.heap.size w).alloc (Nat.le_refl _) _
  have RA : Hid (Box3 (w.alloc (.cells #[.slice a0 d.nb c0, .slice a1 d.nc c1, .slice a2 d.ns c2] 27)) w.heap.size 27 (.slice a0 d.nb c0) (.slice a1 d.nc c1) (.slice a2 d.ns c2)) := Box3.made w _ _ _ _
  have H0 := h.below A1.out
  have HN : Hid ((0 < d.nb → 0 < d.nc → g0 ≠ g1) ∧ (0 < d.nb → 0 < d.ns → g0 ≠ g2) ∧ (0 < d.nc → 0 < d.ns → g1 ≠ g2)) := ⟨h.n01, h.n02, h.n12⟩
  have hx0 : 0 < d.nb → g0 < w.heap.size := fun q => h.s0.lt q
  have hx1 : 0 < d.nc → g1 < w.heap.size := fun q => h.s1.lt q
  have hx2 : 0 < d.ns → g2 < w.heap.size := fun q => h.s2.lt q
  have HXX : Hid ((0 < d.nb → g0 < w.heap.size) ∧ (0 < d.nc → g1 < w.heap.size) ∧ (0 < d.ns → g2 < w.heap.size)) := ⟨hx0, hx1, hx2⟩
  have T0 : Hid (RowS (w.alloc (.cells #[.slice a0 d.nb c0, .slice a1 d.nc c1, .slice a2 d.ns c2] 27)) a0 g0 d.nb d.B) := H0.s0
  have T1 : Hid (RowP (w.alloc (.cells #[.slice a0 d.nb c0, .slice a1 d.nc c1, .slice a2 d.ns c2] 27)) a1 g1 d.nc d.A d.D) := H0.s1
  have T2 : Hid (RowS (w.alloc (.cells #[.slice a0 d.nb c0, .slice a1 d.nc c1, .slice a2 d.ns c2] 27)) a2 g2 d.ns d.S) := H0.s2
  have BB : Hid (Below B w (w.alloc (.cells #[.slice a0 d.nb c0, .slice a1 d.nc c1, .slice a2 d.ns c2] 27))) := A1.out.mono hw
  have SZ : w.heap.size ≤ (w.alloc (.cells #[.slice a0 d.nb c0, .slice a1 d.nc c1, .slice a2 d.ns c2] 27)).heap.size := A1.out.size
  have KG : Hid (KeepG w (w.alloc (.cells #[.slice a0 d.nb c0, .slice a1 d.nc c1, .slice a2 d.ns c2] 27)) d g0 g1 g2) := fun b hb _ _ _ => A1.out.block b hb
  clear h H0 A1 hx0 hx1 hx2 hB
  go_enter Tryd.func12, Tryd.ntmps12
  go_wp2_with fail
  generalize (w.alloc (.cells #[.slice a0 d.nb c0, .slice a1 d.nc c1, .slice a2 d.ns c2] 27)) = v at *
  refine (S0.out _ T0.out).mono ?_
  rintro e w1 ⟨rfl, hr, ho⟩
  have F0 : Hid (RowS w1 a0 g0 d.nb (fun i => mt (k + i))) := hr
  replace T1 : Hid (RowP w1 a1 g1 d.nc d.A d.D) := T1.out.turned ho (fun q z e => HN.out.1 z q e.symm)
  replace T2 : Hid (RowS w1 a2 g2 d.ns d.S) := T2.out.turned ho (fun q z e => HN.out.2.1 z q e.symm)
  replace RA : Hid (Box3 w1 w.heap.size 27 (.slice a0 d.nb c0) (.slice a1 d.nc c1) (.slice a2 d.ns c2)) := RA.out.turned ho (fun z e => by have := HXX.out.1 z; omega)
  replace KG : Hid (KeepG w w1 d g0 g1 g2) := fun b hb q0 q1 q2 => (ho.block (Nat.lt_of_lt_of_le hb SZ) q0).trans (KG.out b hb q0 q1 q2)
  replace BB : Hid (Below B w w1) := BB.out.trans (ho.toBelow HBB.out.1 (Nat.le_trans hw SZ))
  replace SZ : w.heap.size ≤ w1.heap.size := Nat.le_trans SZ ho.1.size
  have k1 := RA.out.c1
  clear hr ho S0 T0
  generalize hx : k + d.nb = K1 at *
  go_wp2_with fail
  refine (S1.out _ T1.out).mono ?_
  rintro e w2 ⟨rfl, hr, ho⟩
  have F1 : Hid (RowP w2 a1 g1 d.nc (fun i => ((K1 + 2 * i : Nat) : Int)) (fun i => mt (K1 + 2 * i + 1))) := hr
  replace F0 : Hid (RowS w2 a0 g0 d.nb (fun i => mt (k + i))) := F0.out.turned ho (fun q z e => HN.out.1 q z e)
  replace T2 : Hid (RowS w2 a2 g2 d.ns d.S) := T2.out.turned ho (fun q z e => HN.out.2.2 z q e.symm)
  replace RA : Hid (Box3 w2 w.heap.size 27 (.slice a0 d.nb c0) (.slice a1 d.nc c1) (.slice a2 d.ns c2)) := RA.out.turned ho (fun z e => by have := HXX.out.2.1 z; omega)
  replace KG : Hid (KeepG w w2 d g0 g1 g2) := fun b hb q0 q1 q2 => (ho.block (Nat.lt_of_lt_of_le hb SZ) q1).trans (KG.out b hb q0 q1 q2)
  replace BB : Hid (Below B w w2) := BB.out.trans (ho.toBelow HBB.out.2.1 (Nat.le_trans hw SZ))
  replace SZ : w.heap.size ≤ w2.heap.size := Nat.le_trans SZ ho.1.size
  have k2 := RA.out.c2
  clear hr ho S1 T1 k1
  generalize hy : K1 + 2 * d.nc = K2 at *
  go_wp2_with fail
  refine (S2.out _ T2.out).mono ?_
  rintro e w3 ⟨rfl, hr, ho⟩
  have F2 : RowS w3 a2 g2 d.ns (fun i => mt (K2 + i)) := hr
  have F1' := F1.out.turned ho (fun q z e => HN.out.2.2 q z e)
  have F0' := F0.out.turned ho (fun q z e => HN.out.2.1 q z e)
  replace KG : Hid (KeepG w w3 d g0 g1 g2) := fun b hb q0 q1 q2 => (ho.block (Nat.lt_of_lt_of_le hb SZ) q2).trans (KG.out b hb q0 q1 q2)
  replace BB : Hid (Below B w w3) := BB.out.trans (ho.toBelow HBB.out.2.2 (Nat.le_trans hw SZ))
  have FD : Hid (RowD w3 (markK d k) a0 a1 a2 g0 g1 g2) := by
    subst hy
    subst hx
    exact ⟨F0', F1', F2, HN.out.1, HN.out.2.1, HN.out.2.2⟩
  clear hr ho S2 T2 k2 F0 F1 F2 F0' F1' RA
  generalize hz : K2 + d.ns = K3 at *
  go_wp2
  go_ret
  exact ⟨by rw [← hz, ← hy, ← hx]; rfl, FD.out, KG.out, BB.out⟩
set_option maxRecDepth 100000 in
set_option maxHeartbeats 2000000 in
/-- laws.heldDisk of a disk that bears its marks. -/
theorem heldDisk_yes (d : Dk) (a0 a1 a2 : Option Addr) (c0 c1 c2 k : Nat) (hk : 1 ≤ k) (hn : k + d.nb + 2 * d.nc + d.ns ≤ 10000000) (w : World) (h : DiskV w (markK d k) a0 a1 a2) :
    Calls Tryd.prog 14 #[.agg #[.slice a0 d.nb c0, .slice a1 d.nc c1, .slice a2 d.ns c2], .int .i64 (k : Int)] w fun e w' => e = .returned (.int .i64 ((k + d.nb + 2 * d.nc + d.ns : Nat) : Int)) ∧ Below w.heap.size w w' := by
  have S0 : Hid (∀ w : World, Strs w a0 d.nb (fun i => mt (k + i)) → Calls Tryd.prog 32 #[.slice a0 d.nb c0, .int .i64 (k : Int)] w fun e w' => e = .returned (.int .i64 ((k + d.nb : Nat) : Int)) ∧ Below w.heap.size w w') := fun w h => heldStrK a0 d.nb c0 k hk (by omega) w h
  have S1 : Hid (∀ w : World, Pens w a1 d.nc (fun i => ((k + d.nb + 2 * i : Nat) : Int)) (fun i => mt (k + d.nb + 2 * i + 1)) → Calls Tryd.prog 33 #[.slice a1 d.nc c1, .int .i64 ((k + d.nb : Nat) : Int)] w fun e w' => e = .returned (.int .i64 ((k + d.nb + 2 * d.nc : Nat) : Int)) ∧ Below w.heap.size w w') := fun w h => heldPenK a1 d.nc c1 (k + d.nb) (by omega) (by omega) w h
  have S2 : Hid (∀ w : World, Strs w a2 d.ns (fun i => mt (k + d.nb + 2 * d.nc + i)) → Calls Tryd.prog 32 #[.slice a2 d.ns c2, .int .i64 ((k + d.nb + 2 * d.nc : Nat) : Int)] w fun e w' => e = .returned (.int .i64 ((k + d.nb + 2 * d.nc + d.ns : Nat) : Int)) ∧ Below w.heap.size w w') := fun w h => heldStrK a2 d.ns c2 (k + d.nb + 2 * d.nc) (by omega) (by omega) w h
  have A1 : Hid (Below w.heap.size w (w.alloc (.cells #[.slice a0 d.nb c0, .slice a1 d.nc c1, .slice a2 d.ns c2] 27))) := (Below.refl w.heap.size w).alloc (Nat.le_refl _) _
  have RA : Hid (Box3 (w.alloc (.cells #[.slice a0 d.nb c0, .slice a1 d.nc c1, .slice a2 d.ns c2] 27)) w.heap.size 27 (.slice a0 d.nb c0) (.slice a1 d.nc c1) (.slice a2 d.ns c2)) := Box3.made w _ _ _ _
  have H0 : Hid (Strs w a0 d.nb (fun i => mt (k + i))) := h.1
  have H1 : Hid (Pens w a1 d.nc (fun i => ((k + d.nb + 2 * i : Nat) : Int)) (fun i => mt (k + d.nb + 2 * i + 1))) := h.2.1
  have H2 : Hid (Strs w a2 d.ns (fun i => mt (k + d.nb + 2 * d.nc + i))) := h.2.2
  clear h
  go_enter Tryd.func14, Tryd.ntmps14
  go_wp2_with fail
  generalize (w.alloc (.cells #[.slice a0 d.nb c0, .slice a1 d.nc c1, .slice a2 d.ns c2] 27)) = v at *
  refine (S0.out _ (H0.out.below A1.out)).mono ?_
  rintro e w1 ⟨rfl, hb⟩
  replace A1 : Hid (Below w.heap.size w w1) := A1.out.trans (hb.mono A1.out.size)
  replace RA : Hid (Box3 w1 w.heap.size 27 (.slice a0 d.nb c0) (.slice a1 d.nc c1) (.slice a2 d.ns c2)) := RA.out.below hb
  have k1 := RA.out.c1
  clear hb S0 H0
  generalize hx : k + d.nb = K1 at *
  have q1 : ¬ (K1 : Int) < 0 := by omega
  go_wp2_with fail
  refine (S1.out _ (H1.out.below A1.out)).mono ?_
  rintro e w2 ⟨rfl, hb⟩
  replace A1 : Hid (Below w.heap.size w w2) := A1.out.trans (hb.mono A1.out.size)
  replace RA : Hid (Box3 w2 w.heap.size 27 (.slice a0 d.nb c0) (.slice a1 d.nc c1) (.slice a2 d.ns c2)) := RA.out.below hb
  have k2 := RA.out.c2
  clear hb S1 H1 k1
  generalize hy : K1 + 2 * d.nc = K2 at *
  have q2 : ¬ (K2 : Int) < 0 := by omega
  go_wp2_with fail
  refine (S2.out _ (H2.out.below A1.out)).mono ?_
  rintro e w3 ⟨rfl, hb⟩
  replace A1 : Hid (Below w.heap.size w w3) := A1.out.trans (hb.mono A1.out.size)
  clear hb S2 H2 k2 RA
  generalize hz : K2 + d.ns = K3 at *
  have q3 : ¬ (K3 : Int) < 0 := by omega
  go_wp2
  go_ret
  exact ⟨by rw [← hz, ← hy, ← hx]; rfl, A1.out⟩
theorem RowD.ofBlocks {w w' : World} {d : Dk} {a0 a1 a2 : Option Addr} {g0 g1 g2 : Nat} (h : RowD w d a0 a1 a2 g0 g1 g2) (e0 : 0 < d.nb → w'.heap[g0]? = w.heap[g0]?) (e1 : 0 < d.nc → w'.heap[g1]? = w.heap[g1]?) (e2 : 0 < d.ns → w'.heap[g2]? = w.heap[g2]?) : RowD w' d a0 a1 a2 g0 g1 g2 := ⟨h.s0.ofBlock e0, h.s1.ofBlock e1, h.s2.ofBlock e2, h.n01, h.n02, h.n12⟩
/-- The disk's rows lie below a block. -/
def LtD (d : Dk) (g0 g1 g2 n : Nat) : Prop := (0 < d.nb → g0 < n) ∧ (0 < d.nc → g1 < n) ∧ (0 < d.ns → g2 < n)
def GeD (d : Dk) (g0 g1 g2 n : Nat) : Prop := (0 < d.nb → n ≤ g0) ∧ (0 < d.nc → n ≤ g1) ∧ (0 < d.ns → n ≤ g2)
theorem RowD.ltD {w : World} {d : Dk} {a0 a1 a2 : Option Addr} {g0 g1 g2 : Nat} (h : RowD w d a0 a1 a2 g0 g1 g2) : LtD d g0 g1 g2 w.heap.size := ⟨fun q => h.s0.lt q, fun q => h.s1.lt q, fun q => h.s2.lt q⟩
theorem RowD.keepG {w w' : World} {d k : Dk} {a0 a1 a2 : Option Addr} {g0 g1 g2 f0 f1 f2 n : Nat} (h : RowD w d a0 a1 a2 g0 g1 g2) (hk : KeepG w w' k f0 f1 f2) (hl : LtD d g0 g1 g2 n) (hg : GeD k f0 f1 f2 n) : RowD w' d a0 a1 a2 g0 g1 g2 :=
  h.ofBlocks (fun q => hk g0 (h.s0.lt q) (fun z => by have := hl.1 q; have := hg.1 z; omega) (fun z => by have := hl.1 q; have := hg.2.1 z; omega) (fun z => by have := hl.1 q; have := hg.2.2 z; omega)) (fun q => hk g1 (h.s1.lt q) (fun z => by have := hl.2.1 q; have := hg.1 z; omega) (fun z => by have := hl.2.1 q; have := hg.2.1 z; omega) (fun z => by have := hl.2.1 q; have := hg.2.2 z; omega)) (fun q => hk g2 (h.s2.lt q) (fun z => by have := hl.2.2 q; have := hg.1 z; omega) (fun z => by have := hl.2.2 q; have := hg.2.1 z; omega) (fun z => by have := hl.2.2 q; have := hg.2.2 z; omega))
theorem Box3.keepLow {w w' : World} {b n : Nat} {t : TypeId} {x y z : Value} {k : Dk} {f0 f1 f2 : Nat} (h : Box3 w b t x y z) (hk : KeepG w w' k f0 f1 f2) (hb : b < n) (hg : GeD k f0 f1 f2 n) : Box3 w' b t x y z := h.ofBlock (hk b h.lt (fun z => by have := hg.1 z; omega) (fun z => by have := hg.2.1 z; omega) (fun z => by have := hg.2.2 z; omega))
theorem Box3.keepHigh {w w' : World} {b : Nat} {t : TypeId} {x y z : Value} {k : Dk} {f0 f1 f2 : Nat} (h : Box3 w b t x y z) (hk : KeepG w w' k f0 f1 f2) (hg : LtD k f0 f1 f2 b) : Box3 w' b t x y z := h.ofBlock (hk b h.lt (fun z => by have := hg.1 z; omega) (fun z => by have := hg.2.1 z; omega) (fun z => by have := hg.2.2 z; omega))
end Go.Proofs.YtgdfhgepbamhmaaDoor
