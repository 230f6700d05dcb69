/-
  Texts of the proof, joined: RowL, BankBy.
-/
import Derived.Test.YtpngjkhncfbnpaaDoorU01
import Derived.Lib.AppendStr
import Derived.Lib.AppendZeros
import Derived.Maps.AppendAt
import Derived.Test.YtpngjkhncfbnpaaDoorU21
namespace Go.Proofs.YtpngjkhncfbnpaaDoor
open Go.ChangeShapes Go.WideShapes Go.ChangeAt Go.RowKit
set_option linter.unusedVariables false
def lv (L : List Nat) : List Value := L.map fun b => .int .u8 ((b : Nat) : Int)
theorem lv_append (L N : List Nat) : lv (L ++ N) = lv L ++ lv N := List.map_append
theorem lv_length (L : List Nat) : (lv L).length = L.length := List.length_map _
def RL (w : World) (B g c : Nat) (L : List Nat) : Prop := w.ownsRow B 5 1 (.slice (some ⟨g, 0, none⟩) L.length c) L.length (lv L)
theorem RL.ge {w : World} {B g c : Nat} {L : List Nat} (h : RL w B g c L) : B ≤ g ∧ g < w.heap.size := World.ownsRow.lt h g rfl
theorem RL.ofBlock {w w' : World} {B g c : Nat} {L : List Nat} (h : RL w B g c L) (e : w'.heap[g]? = w.heap[g]?) : RL w' B g c L := by
  obtain ⟨hl, ⟨h1, h2⟩ | ⟨g', cap, cur, hv, hB, hh, hr⟩⟩ := h
  · cases h1
  · have hg : g' = g := by cases hv; rfl
    exact ⟨hl, .inr ⟨g', cap, cur, hv, hB, by rw [hg, e, ← hg]; exact hh, hr⟩⟩
theorem RL.below {w w' : World} {B g c : Nat} {L : List Nat} (h : RL w B g c L) (hb : Below w.heap.size w w') : RL w' B g c L := h.ofBlock (hb.block g h.ge.2)
theorem RL.mono {w : World} {B B' g c : Nat} {L : List Nat} (h : RL w B g c L) (hb : B' ≤ B) : RL w B' g c L := by
  obtain ⟨hl, h0 | ⟨g', cap, cur, hv, h1, h2⟩⟩ := h
  · exact ⟨hl, .inl h0⟩
  · exact ⟨hl, .inr ⟨g', cap, cur, hv, Nat.le_trans hb h1, h2⟩⟩
theorem RL.cell {w : World} {B g c : Nat} {L : List Nat} (h : RL w B g c L) (i : Nat) (hi : i < L.length) : w.cell? ⟨g, i, none⟩ = some (.int .u8 ((L[i] : Nat) : Int)) := by
  obtain ⟨hl, ⟨h1, h2⟩ | ⟨g', cap, cur, hv, hB, hh, hn, hm, hs, ht⟩⟩ := h
  · cases h1
  · cases hv
    have h1 : (cur.toList.take (L.length * 1))[i]? = some (.int .u8 ((L[i] : Nat) : Int)) := by rw [ht]; simp [lv, hi]
    rw [List.getElem?_take, if_pos (by omega), Array.getElem?_toList] at h1
    simp [World.cell?, hh, h1]
theorem RL.made (w : World) (cs : Array Value) (L : List Nat) (n : Nat) (hn : L.length = n) (hm : n ≤ 1000000) (e : cs.toList = lv L) : RL (w.alloc (.cells cs 5)) w.heap.size w.heap.size n L := by
  have hs : cs.size = L.length := by rw [← Array.length_toList, e, lv_length]
  refine ⟨by rw [lv_length, Nat.mul_one], .inr ⟨w.heap.size, n, cs, rfl, Nat.le_refl _, (MapKept.heap_alloc w _).1, by omega, by unfold maxLen; omega, by omega, by rw [Nat.mul_one, e, List.take_of_length_le (by rw [lv_length]; omega)]⟩⟩
theorem Tryd.infoB8 : (Tryd.prog.info? 5).map (fun i => (i.zero, i.size, i.bytes)) = some (some (.int .u8 0), 1, 1) := by kernel_rfl
theorem onlyB_of_grown {w w' : World} {g : Nat} (h : w.grownBy w' (some g)) : OnlyB g w w' := ⟨h.os, h.tape, h.output, h.size, fun b hb hne => h.block b hb (fun e => hne (Option.some.inj e))⟩
theorem OnlyB.behind {g g' : Nat} {w w1 w2 : World} (h : OnlyB g w w1) (h' : OnlyB g' w1 w2) (hg : g' = g ∨ w.heap.size ≤ g') : OnlyB g w w2 :=
  ⟨h'.os.trans h.os, h'.tape.trans h.tape, h'.output.trans h.output, Nat.le_trans h.size h'.size, fun b hb hne => (h'.block b (Nat.lt_of_lt_of_le hb h.size) (by rcases hg with rfl | hg <;> omega)).trans (h.block b hb hne)⟩
set_option maxRecDepth 100000 in
theorem appL (w : World) (B g c : Nat) (L N : List Nat) (q o cq : Nat) (ty : TypeId) (hB : B ≤ w.heap.size) (hl : L.length + N.length ≤ 1000000) (h : RL w B g c L) (hN : ∀ j (hj : j < N.length), w.cell? ⟨q, o + j, none⟩ = some (.int .u8 ((N[j] : Nat) : Int))) :
    ∃ g' c' w', (Builtin.append_ #[40, 40] ty #[.slice (some ⟨g, 0, none⟩) L.length c, .slice (some ⟨q, o, none⟩) N.length cq]).run Tryd.prog w = .ok (.slice (some ⟨g', 0, none⟩) (L ++ N).length c') w' ∧ RL w' B g' c' (L ++ N) ∧ OnlyB g w w' ∧ (g' = g ∨ g' = w.heap.size) := by
  obtain ⟨i, hi, hz, hsz, hby⟩ := info_parts Tryd.infoB8
  obtain ⟨v', w', hr, ho, hg, hne, hloc⟩ := run_append_own_at (P := Tryd.prog) w B 40 ty 5 i (.int .u8 0) 1 1 Tryd.underlying40 hi hz hsz hby rfl (by decide) _ L.length _ h ⟨q, o, none⟩ N.length cq (lv N) (by rw [lv_length, Nat.mul_one]) (fun j u hj => by
    rw [Go.WideShapes.add_plain]
    unfold lv at hj
    rw [List.getElem?_map, Option.map_eq_some_iff] at hj
    obtain ⟨b, hb, rfl⟩ := hj
    obtain ⟨hj', rfl⟩ := List.getElem?_eq_some_iff.1 hb
    exact hN j hj') (fun u hu => by
      obtain ⟨_, _, rfl⟩ := List.mem_map.1 hu
      rfl) (by unfold maxLen; omega) (by omega) hB
  rw [← lv_append, ← List.length_append] at ho
  have hform : ∃ g2 c2, v' = .slice (some ⟨g2, 0, none⟩) (L ++ N).length c2 := by
    obtain ⟨hl, ⟨h1, h2⟩ | ⟨g', cap, cur, hv, _⟩⟩ := ho
    · have := hne.1 h1
      cases this.1
    · exact ⟨g', cap, hv⟩
  obtain ⟨g2, c2, rfl⟩ := hform
  refine ⟨g2, c2, w', hr, ho, onlyB_of_grown hg, ?_⟩
  rcases hloc with e | e
  · exact .inl (Option.some.inj e)
  · exact .inr (Option.some.inj e)
def strL (s : ByteArray) : List Nat := s.data.toList.map UInt8.toNat
theorem strL_length (s : ByteArray) : (strL s).length = s.size := by unfold strL; rw [List.length_map, Array.length_toList]; rfl
set_option maxRecDepth 100000 in
theorem appT (w : World) (B g c : Nat) (L : List Nat) (s : ByteArray) (ty : TypeId) (hB : B ≤ w.heap.size) (hl : L.length + s.size ≤ 1000000) (h : RL w B g c L) :
    ∃ g' c' w', (Builtin.append_ #[40, 9] ty #[.slice (some ⟨g, 0, none⟩) L.length c, .string s]).run Tryd.prog w = .ok (.slice (some ⟨g', 0, none⟩) (L ++ strL s).length c') w' ∧ RL w' B g' c' (L ++ strL s) ∧ OnlyB g w w' := by
  obtain ⟨i, hi, hz, hsz, hby⟩ := info_parts Tryd.infoB8
  obtain ⟨v', w', hr, ho, hg, hne⟩ := Lib.run_append_own_string (P := Tryd.prog) w B 40 9 ty 5 i Tryd.underlying40 Tryd.underlying9 hi hz hsz hby _ L.length _ h s (by unfold maxLen; omega) (by omega) hB
  have e1 : Lib.strCells s = lv (strL s) := by
    unfold Lib.strCells lv strL
    simp
  rw [e1, ← lv_append, ← strL_length s, ← List.length_append] at ho
  have hform : ∃ g2 c2, v' = .slice (some ⟨g2, 0, none⟩) (L ++ strL s).length c2 := by
    obtain ⟨hl, ⟨h1, h2⟩ | ⟨g', cap, cur, hv, _⟩⟩ := ho
    · have := hne.1 h1
      cases this.1
    · exact ⟨g', cap, hv⟩
  obtain ⟨g2, c2, rfl⟩ := hform
  exact ⟨g2, c2, w', hr, ho, onlyB_of_grown hg⟩
def numP (sz x r : Nat) : List Nat := (List.range r).map fun j => x / 2 ^ (8 * (sz - 1 - j)) % 256
def numL (sz x : Nat) : List Nat := numP sz x sz
theorem numP_succ (sz x r : Nat) : numP sz x (r + 1) = numP sz x r ++ [x / 2 ^ (8 * (sz - 1 - r)) % 256] := by unfold numP; rw [List.range_succ, List.map_append]; rfl
theorem numP_length (sz x r : Nat) : (numP sz x r).length = r := by unfold numP; simp
theorem numL_length (sz x : Nat) : (numL sz x).length = sz := numP_length sz x sz
theorem numEqL {a b : Int} (h : a = b) : Value.int .i64 a = .int .i64 b := by rw [h]
set_option maxRecDepth 100000 in
set_option maxHeartbeats 2000000 in
theorem appendNumberL (B g c x sz : Nat) (L : List Nat) (hsz : sz ≤ 8) (hk : L.length ≤ 900000) (w : World) (hB : B ≤ w.heap.size) (h : RL w B g c L) (n : Nat) (hn : n = L.length) :
    Calls Tryd.prog 61 #[.slice (some ⟨g, 0, none⟩) n c, .int .i64 (x : Int), .int .i64 (sz : Int)] w fun e w' => (∃ g' c', e = .returned (.slice (some ⟨g', 0, none⟩) (n + sz) c') ∧ RL w' B g' c' (L ++ numL sz x) ∧ (g' = g ∨ w.heap.size ≤ g')) ∧ OnlyB g w w' := by
  have HR : Hid (RL w B g c L) := h
  have HN : Hid (n = L.length) := hn
  have HK : Hid (L.length ≤ 900000) := hk
  have HBB : Hid (B ≤ w.heap.size) := hB
  clear h hn hk hB
  go_enter Tryd.func61, Tryd.ntmps61
  go_wp2
  go_loopw [0, 7] (fun s i wr => ∃ r g2 c2 : Nat, r ≤ sz ∧ i = .int .i64 ((sz : Int) - 1 - (r : Int)) ∧ s = .slice (some ⟨g2, 0, none⟩) (n + r) c2 ∧ RL wr B g2 c2 (L ++ numP sz x r) ∧ (g2 = g ∨ w.heap.size ≤ g2) ∧ OnlyB g w wr) (fun _ i _ => (intOf i + 1).toNat)
  case atStart => exact ⟨0, g, c, by omega, numEqL (by omega), rfl, by unfold numP; simpa using HR.out, .inl rfl, OnlyB.refl _ _⟩
  case round =>
    clear HR
    obtain ⟨r, g2, c2, hr, rfl, rfl, hrow, hg, ho⟩ := hrel
    have HR : Hid (RL wr B g2 c2 (L ++ numP sz x r)) := hrow
    have HG : Hid (g2 = g ∨ w.heap.size ≤ g2) := hg
    have HO : Hid (OnlyB g w wr) := ho
    clear hrow hg ho
    by_cases hlt : r < sz
    · have x0 : (0 : Int) ≤ (sz : Int) - 1 - (r : Int) := by omega
      obtain ⟨s, hs⟩ : ∃ s, s = 8 * (sz - 1 - r) := ⟨_, rfl⟩
      have e8 : (8 : Int) * ((sz : Int) - 1 - (r : Int)) = (s : Int) := by omega
      have s0 : (0 : Int) ≤ (s : Int) := by omega
      have s1 : (s : Int) ≤ 64 := by omega
      have eX : (x : Int) / 2 ^ s = ((x / 2 ^ s : Nat) : Int) := by simp
      have HX : Hid (numP sz x (r + 1) = numP sz x r ++ [x / 2 ^ s % 256]) := by show _ = _; rw [numP_succ, hs]
      generalize x / 2 ^ s = y at *
      have eY : (y : Int) % 256 = ((y % 256 : Nat) : Int) := by omega
      generalize y % 256 = Y at *
      have hw : (w.heap.size ≤ wr.heap.size) := HO.out.size
      obtain ⟨g3, c3, w3, hr3, hrow3, ho3, hg3⟩ := appL (wr.alloc (.cells #[.int .u8 (Y : Nat)] 5)) B g2 c2 (L ++ numP sz x r) [Y] wr.heap.size 0 1 40 (by have := HBB.out; simp; omega) (by have := HK.out; rw [List.length_append, numP_length]; simp; omega) (HR.out.below ((Below.refl _ _).alloc (Nat.le_refl _) _)) (fun j hj => by
        obtain rfl : j = 0 := by simpa using hj
        have : ((wr.alloc (.cells #[.int .u8 (Y : Nat)] 5)).rowIs wr.heap.size 5 1 (fun _ => .int .u8 (Y : Nat))) := World.rowIs_alloc wr #[.int .u8 (Y : Nat)] 5 _ (fun i hi => by
          obtain rfl : i = 0 := by simpa using hi
          rfl)
        exact this.cell (by omega))
      have el : (L ++ numP sz x r).length = n + r := by rw [List.length_append, numP_length, HN.out]
      have el2 : (L ++ numP sz x r ++ [Y]).length = n + r + 1 := by rw [List.length_append, el]; rfl
      rw [el, el2] at hr3
      have hr4 : ∀ ty, (Builtin.append_ #[40, 40] ty #[.slice (some ⟨g2, 0, none⟩) (n + r) c2, .slice (some ⟨wr.heap.size, 0, none⟩) 1 1]).run Tryd.prog (wr.alloc (.cells #[.int .u8 (Y : Nat)] 5)) = .ok (.slice (some ⟨g3, 0, none⟩) (n + r + 1) c3) w3 := fun ty => hr3
      have HR3 : Hid (RL w3 B g3 c3 (L ++ numP sz x (r + 1))) := by show RL _ _ _ _ _; rw [HX.out, ← List.append_assoc]; exact hrow3
      have HO3 : Hid (OnlyB g w w3) := (HO.out.below ((Below.refl _ _).alloc (Nat.le_refl _) _)).behind ho3 HG.out
      have HG3 : Hid (g3 = g ∨ w.heap.size ≤ g3) := by
        show _ ∨ _
        rcases hg3 with e | e
        · rw [e]; exact HG.out
        · right; rw [e]; simp; omega
      have hHK : Hid ((sz : Int) - 1 - (r : Int) - 1 = (sz : Int) - 1 - ((r + 1 : Nat) : Int)) := by show _ = _; omega
      clear hrow3 ho3 hg3 hs HR HO HX hr3 el el2
      go_wp2_with (at_builtin; refine Lib.wpList_append_run _ rfl (.tmp 14) (.tmp 20) 40 40 rfl (.slice (some ⟨g2, 0, none⟩) (n + r) c2) (.slice (some ⟨wr.heap.size, 0, none⟩) 1 1) rfl rfl _ _ (hr4 _) ?_)
      go_roundw
      case rel => exact ⟨r + 1, g3, c3, by omega, numEqL hHK.out, rfl, HR3.out, HG3.out, HO3.out⟩
      case measure => simp [intOf]; omega
    · obtain rfl : r = sz := by omega
      have x0 : ¬ (0 : Int) ≤ (r : Int) - 1 - (r : Int) := by omega
      go_wp2
      go_ret
      exact ⟨⟨g2, c2, rfl, HR.out, HG.out⟩, HO.out⟩
end Go.Proofs.YtpngjkhncfbnpaaDoor
namespace Go.Proofs.YtpngjkhncfbnpaaDoor
open Go.ChangeShapes Go.WideShapes Go.ChangeAt Go.RowKit
set_option linter.unusedVariables false
def flatL {T : Type} (f : T → List Nat) (F : Nat → T) : Nat → List Nat
  | 0 => []
  | n + 1 => flatL f F n ++ f (F n)
def rgL (x : Rg) : List Nat := [x.v.toNat] ++ numL 4 x.c.toNat ++ strL x.r
def seL (x : Se) : List Nat := numL 2 x.id.toNat ++ numL 2 x.sq.toNat ++ [x.cd.toNat] ++ numL 4 x.ma.toNat
def bankL (d : Bk) : List Nat := [d.nr] ++ flatL rgL d.R d.nr ++ [d.ns] ++ flatL seL d.S d.ns
theorem rgL_length {x : Rg} (h : x.Ok) : (rgL x).length = 37 := by unfold rgL; simp [numL_length, strL_length, h.2.2]
theorem seL_length (x : Se) : (seL x).length = 9 := by unfold seL; simp [numL_length]
theorem flatL_length {T : Type} (f : T → List Nat) (F : Nat → T) (c n : Nat) (h : ∀ i, i < n → (f (F i)).length = c) : (flatL f F n).length = n * c := by
  induction n with
  | zero => simp [flatL]
  | succ n ih =>
    unfold flatL
    rw [List.length_append, ih (fun i hi => h i (by omega)), h n (by omega), Nat.add_mul, Nat.one_mul]
theorem flatL_rg {d : Bk} (h : d.Ok) (k : Nat) (hk : k ≤ d.nr) : (flatL rgL d.R k).length = k * 37 := flatL_length _ _ 37 k (fun i hi => rgL_length (h.1.2 i (by omega)).1)
theorem flatL_se (d : Bk) (k : Nat) : (flatL seL d.S k).length = k * 9 := flatL_length _ _ 9 k (fun i hi => seL_length _)
theorem bankL_length {d : Bk} (h : d.Ok) : (bankL d).length = 2 + d.nr * 37 + d.ns * 9 := by
  unfold bankL
  simp only [List.length_append, List.length_cons, List.length_nil, flatL_rg h d.nr (Nat.le_refl _), flatL_se]
  omega
theorem lit1 (w : World) (x : Nat) : ∀ j (hj : j < [x].length), (w.alloc (.cells #[.int .u8 ((x : Nat) : Int)] 5)).cell? ⟨w.heap.size, 0 + j, none⟩ = some (.int .u8 (([x][j] : Nat) : Int)) := fun j hj => by
  obtain rfl : j = 0 := by simpa using hj
  have : ((w.alloc (.cells #[.int .u8 ((x : Nat) : Int)] 5)).rowIs w.heap.size 5 1 (fun _ => .int .u8 ((x : Nat) : Int))) := World.rowIs_alloc w #[.int .u8 ((x : Nat) : Int)] 5 _ (fun i hi => by
    obtain rfl : i = 0 := by simpa using hi
    rfl)
  exact this.cell (by omega)
theorem app1 (w : World) (B g c n : Nat) (L : List Nat) (x : Nat) (hB : B ≤ w.heap.size) (hn : n = L.length) (hl : n ≤ 900000) (h : RL w B g c L) :
    ∃ g' c' w', (∀ ty, (Builtin.append_ #[40, 40] ty #[.slice (some ⟨g, 0, none⟩) n c, .slice (some ⟨w.heap.size, 0, none⟩) 1 1]).run Tryd.prog (w.alloc (.cells #[.int .u8 ((x : Nat) : Int)] 5)) = .ok (.slice (some ⟨g', 0, none⟩) (n + 1) c') w') ∧ RL w' B g' c' (L ++ [x]) ∧ OnlyB g w w' ∧ (g' = g ∨ w.heap.size ≤ g') := by
  have hb : Below w.heap.size w (w.alloc (.cells #[.int .u8 ((x : Nat) : Int)] 5)) := (Below.refl _ _).alloc (Nat.le_refl _) _
  obtain ⟨g3, c3, w3, hr3, hrow3, ho3, hg3⟩ := appL (w.alloc (.cells #[.int .u8 ((x : Nat) : Int)] 5)) B g c L [x] w.heap.size 0 1 40 (by simp; omega) (by simp; omega) (h.below hb) (lit1 w x)
  have el2 : (L ++ [x]).length = n + 1 := by rw [List.length_append, hn]; rfl
  rw [← hn, el2] at hr3
  refine ⟨g3, c3, w3, fun ty => hr3, hrow3, ((OnlyB.refl g w).below hb).behind ho3 (.inl rfl), ?_⟩
  rcases hg3 with e | e
  · exact .inl e
  · right; rw [e]; simp
set_option maxRecDepth 100000 in
set_option maxHeartbeats 4000000 in
theorem implBankBytes_ok (d : Bk) (hd : d.Ok) (a0 a1 : Option Addr) (e0 e1 : Nat) (w : World) (h : BankV w d a0 a1) (hT : TabW w) :
    Calls Tryd.prog 26 #[.agg #[.slice a0 d.nr e0, .slice a1 d.ns e1]] w fun e w' => (∃ g c, e = .returned (.tuple #[.slice (some ⟨g, 0, none⟩) (bankL d).length c, .int .i64 0]) ∧ RL w' w.heap.size g c (bankL d)) ∧ Below w.heap.size w w' := by
  have BO : Hid (∀ w : World, BankV w d a0 a1 → TabW w → Calls Tryd.prog 23 #[.agg #[.slice a0 d.nr e0, .slice a1 d.ns e1]] w fun e w' => e = .returned (.bool true) ∧ Below w.heap.size w w') := fun w h hT => by
    have := implBankOK_any d a0 a1 e0 e1 w h hT
    rwa [okB_yes hd] at this
  have HV : Hid (BankV w d a0 a1) := h
  have TB : Hid (TabW w) := hT
  have HD : Hid d.Ok := hd
  have n6 := hd.1.1
  have m6 := hd.2.1
  have A1 : Hid (Below w.heap.size w (w.alloc (.cells #[.slice a0 d.nr e0, .slice a1 d.ns e1] 46))) := (Below.refl _ _).alloc (Nat.le_refl _) _
  have X : Hid (Box2 (w.alloc (.cells #[.slice a0 d.nr e0, .slice a1 d.ns e1] 46)) w.heap.size 46 (.slice a0 d.nr e0) (.slice a1 d.ns e1)) := Box2.made _ _ _ _
  clear h hT hd
  go_enter Tryd.func26, Tryd.ntmps26
  go_wp2_with fail
  generalize (w.alloc (.cells #[.slice a0 d.nr e0, .slice a1 d.ns e1] 46)) = v at *
  refine (BO.out _ (HV.out.below A1.out) (TB.out.below A1.out)).mono ?_
  rintro e v0 ⟨rfl, hb⟩
  replace A1 : Hid (Below w.heap.size w v0) := A1.out.trans (hb.mono A1.out.size)
  replace X : Hid (Box2 v0 w.heap.size 46 (.slice a0 d.nr e0) (.slice a1 d.ns e1)) := X.out.below hb
  have VR : Hid (Els v0 3 a0 d.nr (rgF d.R)) := HV.out.1.below A1.out
  have VS : Hid (Els v0 4 a1 d.ns (seF d.S)) := HV.out.2.below A1.out
  clear hb BO HV TB
  have x0 := X.out.c0
  have x1 := X.out.c1
  have y0 : (d.nr : Int) % 256 = (d.nr : Int) := by omega
  have RB : Hid (RL (v0.alloc (.cells #[.int .u8 ((d.nr : Nat) : Int)] 5)) v0.heap.size v0.heap.size 1 [d.nr]) := RL.made v0 _ [d.nr] 1 rfl (by omega) rfl
  have BB : Hid (Below v0.heap.size v0 (v0.alloc (.cells #[.int .u8 ((d.nr : Nat) : Int)] 5))) := (Below.refl _ _).alloc (Nat.le_refl _) _
  have x2 := (X.out.below BB.out).c0
  go_wp2
  clear x2
  generalize (v0.alloc (.cells #[.int .u8 ((d.nr : Nat) : Int)] 5)) = v1 at *
  have WV : Hid (w.heap.size ≤ v0.heap.size) := A1.out.size
  go_loopw [4, 20] (fun s i wr => ∃ k g c : Nat, k ≤ d.nr ∧ i = .int .i64 k ∧ s = .slice (some ⟨g, 0, none⟩) (1 + k * 37) c ∧ RL wr v0.heap.size g c ([d.nr] ++ flatL rgL d.R k) ∧ Below v0.heap.size v0 wr) (fun _ i _ => d.nr - (intOf i).toNat)
  case atStart => exact ⟨0, v0.heap.size, 1, by omega, rfl, rfl, by simpa [flatL] using RB.out, BB.out⟩
  case round =>
    clear RB BB x0 x1
    obtain ⟨k, g, c, hk, rfl, rfl, hrow, hb⟩ := hrel
    have HR : Hid (RL wr v0.heap.size g c ([d.nr] ++ flatL rgL d.R k)) := hrow
    have HB : Hid (Below v0.heap.size v0 wr) := hb
    by_cases hlt : k < d.nr
    · have hlt' : (k : Int) < (d.nr : Int) := by omega
      obtain ⟨b, off, ha, hc⟩ := (VR.out.below hb).opened (by omega)
      cases ha
      obtain ⟨c0, c1, c2⟩ := Els.rgC hc k hlt
      have hok := (HD.out.1.2 k hlt).1
      have LL : ([d.nr] ++ flatL rgL d.R k).length = 1 + k * 37 := by rw [List.length_append, flatL_rg HD.out k hk]; rfl
      have EF : Hid (flatL rgL d.R (k + 1) = flatL rgL d.R k ++ rgL (d.R k)) := rfl
      have RK : Hid (rgL (d.R k) = [(d.R k).v.toNat] ++ numL 4 (d.R k).c.toNat ++ strL (d.R k).r) := rfl
      have S32 : Hid ((d.R k).r.size = 32) := hok.2.2
      obtain ⟨V, hV⟩ := Int.eq_ofNat_of_zero_le hok.1.1
      obtain ⟨C, hC⟩ := Int.eq_ofNat_of_zero_le (show 0 ≤ (d.R k).c by have := hok.2.1.1; omega)
      have hV2 : V ≤ 255 := by have := hok.1.2; omega
      rw [hV] at c0
      rw [hC] at c1
      have RK2 : Hid (rgL (d.R k) = [V] ++ numL 4 C ++ strL (d.R k).r) := by show _ = _; rw [RK.out, hV, hC]; rfl
      generalize (d.R k).r = T at *
      clear RK hok hc hb hV hC
      obtain ⟨v2, hv2⟩ : ∃ v2, v2 = wr.alloc (.cells #[.int .i64 (V : Int), .int .i64 (C : Int), .string T] 54) := ⟨_, rfl⟩
      have hbr : Below wr.heap.size wr v2 := by rw [hv2]; exact (Below.refl _ _).alloc (Nat.le_refl _) _
      have Y : Box3 v2 wr.heap.size 54 (.int .i64 (V : Int)) (.int .i64 (C : Int)) (.string T) := by rw [hv2]; exact Box3.made _ _ _ _ _
      have s2 : wr.heap.size < v2.heap.size := Y.lt
      have gl := HR.out.ge
      have hBv : v0.heap.size ≤ v2.heap.size := Nat.le_trans HB.out.size hbr.size
      obtain ⟨g2, c2', w2, hr2, hrow2, ho2, hg2⟩ := app1 v2 v0.heap.size g c (1 + k * 37) _ V hBv LL.symm (by omega) (HR.out.below hbr)
      have Y2 : Box3 w2 wr.heap.size 54 (.int .i64 (V : Int)) (.int .i64 (C : Int)) (.string T) := Y.ofBlock (ho2.block _ Y.lt (by omega))
      have NG : Hid (g2 ≠ wr.heap.size) := by show _ ≠ _; rcases hg2 with e | e <;> omega
      have B2 : Hid (Below v0.heap.size v0 w2) := (HB.out.trans (hbr.mono HB.out.size)).trans (ho2.toBelow gl.1 hBv)
      have R2 : Hid (RL w2 v0.heap.size g2 c2' ([d.nr] ++ flatL rgL d.R k ++ [V])) := hrow2
      have L2 : Hid (([d.nr] ++ flatL rgL d.R k ++ [V]).length = 1 + k * 37 + 1) := by show _ = _; rw [List.length_append, LL]; rfl
      have YH : Hid (Box3 w2 wr.heap.size 54 (.int .i64 (V : Int)) (.int .i64 (C : Int)) (.string T)) := Y2
      have yV : (V : Int) % 256 = (V : Int) := by omega
      have hs2 : v2.heap.size = wr.heap.size + 1 := by rw [hv2]; simp
      rw [hs2, hv2] at hr2
      have y1 := Y2.c1
      clear hrow2 ho2 hg2 hrow HR Y Y2 hbr s2 gl hBv LL hv2 hs2
      go_wp2_with (at_builtin; refine Lib.wpList_append_run _ rfl (.tmp 24) (.tmp 28) 40 40 rfl (.slice (some ⟨g, 0, none⟩) (1 + k * 37) c) (.slice (some ⟨wr.heap.size + 1, 0, none⟩) 1 1) rfl rfl _ _ (hr2 _) ?_)
      have AN : Calls Tryd.prog 61 #[.slice (some ⟨g2, 0, none⟩) (1 + k * 37 + 1) c2', .int .i64 (C : Int), .int .i64 4] w2 fun e w' => (∃ g' c', e = .returned (.slice (some ⟨g', 0, none⟩) (1 + k * 37 + 1 + 4) c') ∧ RL w' v0.heap.size g' c' ([d.nr] ++ flatL rgL d.R k ++ [V] ++ numL 4 C) ∧ (g' = g2 ∨ w2.heap.size ≤ g')) ∧ OnlyB g2 w2 w' := appendNumberL v0.heap.size g2 c2' C 4 _ (by omega) (by rw [L2.out]; omega) w2 B2.out.size R2.out _ L2.out.symm
      refine AN.mono ?_
      rintro e w3 ⟨⟨g3, c3, rfl, hrow3, hg3⟩, ho3⟩
      have Y3 : Box3 w3 wr.heap.size 54 (.int .i64 (V : Int)) (.int .i64 (C : Int)) (.string T) := YH.out.ofBlock (ho3.block _ YH.out.lt (fun e => NG.out e.symm))
      have y2 := Y3.c2
      have B3 : Hid (Below v0.heap.size v0 w3) := B2.out.trans (ho3.toBelow R2.out.ge.1 B2.out.size)
      have L3 : ([d.nr] ++ flatL rgL d.R k ++ [V] ++ numL 4 C).length = 1 + k * 37 + 1 + 4 := by rw [List.length_append, L2.out, numL_length]
      obtain ⟨g4, c4, w4, hr4, hrow4, ho4⟩ := appT w3 v0.heap.size g3 c3 _ T 40 B3.out.size (by rw [L3, S32.out]; omega) hrow3
      have L4 : ([d.nr] ++ flatL rgL d.R k ++ [V] ++ numL 4 C ++ strL T).length = 1 + (k + 1) * 37 := by rw [List.length_append, L3, strL_length, S32.out]; omega
      rw [L3, L4] at hr4
      have hr5 : ∀ ty, (Builtin.append_ #[40, 9] ty #[.slice (some ⟨g3, 0, none⟩) (1 + k * 37 + 1 + 4) c3, .string T]).run Tryd.prog w3 = .ok (.slice (some ⟨g4, 0, none⟩) (1 + (k + 1) * 37) c4) w4 := fun ty => hr4
      have R4 : Hid (RL w4 v0.heap.size g4 c4 ([d.nr] ++ flatL rgL d.R (k + 1))) := by
        show RL _ _ _ _ _
        rw [EF.out, RK2.out]
        simpa [List.append_assoc] using hrow4
      have B4 : Hid (Below v0.heap.size v0 w4) := B3.out.trans (ho4.toBelow hrow3.ge.1 B3.out.size)
      clear AN hrow3 hg3 ho3 Y3 hrow4 ho4 L3 L4 R2 B2 B3 YH NG L2 EF RK2 S32 hr2 hr4
      go_wp2_with (at_builtin; refine Lib.wpList_append_run _ rfl (.tmp 34) (.tmp 36) 40 9 rfl (.slice (some ⟨g3, 0, none⟩) (1 + k * 37 + 1 + 4) c3) (.string T) rfl rfl _ _ (hr5 _) ?_)
      go_roundw
      case rel => exact ⟨k + 1, g4, c4, by omega, by go_num, rfl, R4.out, B4.out⟩
      case measure => simp [intOf]; omega
    · obtain rfl : k = d.nr := by omega
      have hlt' : ¬ (d.nr : Int) < (d.nr : Int) := by omega
      have x1 := (X.out.below hb).c1
      have y1 : (d.ns : Int) % 256 = (d.ns : Int) := by omega
      have LL : ([d.nr] ++ flatL rgL d.R d.nr).length = 1 + d.nr * 37 := by rw [List.length_append, flatL_rg HD.out d.nr (Nat.le_refl _)]; rfl
      obtain ⟨g2, c2', w2, hr2, hrow2, ho2, hg2⟩ := app1 wr v0.heap.size g c (1 + d.nr * 37) _ d.ns HB.out.size LL.symm (by omega) HR.out
      have B2 : Hid (Below v0.heap.size v0 w2) := HB.out.trans (ho2.toBelow HR.out.ge.1 HB.out.size)
      have R2 : Hid (RL w2 v0.heap.size g2 c2' ([d.nr] ++ flatL rgL d.R d.nr ++ [d.ns])) := hrow2
      have x2 := (X.out.below B2.out).c1
      have LM : Hid (([d.nr] ++ flatL rgL d.R d.nr ++ [d.ns]).length = 1 + d.nr * 37 + 1) := by show _ = _; rw [List.length_append, LL]; rfl
      clear hrow2 ho2 hg2 hrow HR LL hb hlt hk
      go_wp2_with (at_builtin; refine Lib.wpList_append_run _ rfl (.tmp 39) (.tmp 44) 40 40 rfl (.slice (some ⟨g, 0, none⟩) (1 + d.nr * 37) c) (.slice (some ⟨wr.heap.size, 0, none⟩) 1 1) rfl rfl _ _ (hr2 _) ?_)
      clear hr2 x1 x2 HB
      generalize hLA : [d.nr] ++ flatL rgL d.R d.nr ++ [d.ns] = LA at *
      have HLA : Hid ([d.nr] ++ flatL rgL d.R d.nr ++ [d.ns] = LA) := hLA
      clear hLA
      generalize hm0 : 1 + d.nr * 37 + 1 = m0 at *
      have m1 : m0 ≤ 300 := by omega
      have HM : Hid (1 + d.nr * 37 + 1 = m0) := hm0
      clear hm0
      go_loopw [4, 49] (fun s i wr => ∃ k g c : Nat, k ≤ d.ns ∧ i = .int .i64 k ∧ s = .slice (some ⟨g, 0, none⟩) (m0 + k * 9) c ∧ RL wr v0.heap.size g c (LA ++ flatL seL d.S k) ∧ Below v0.heap.size v0 wr) (fun _ i _ => d.ns - (intOf i).toNat)
      case atStart => exact ⟨0, g2, c2', by omega, rfl, rfl, by simpa [flatL] using R2.out, B2.out⟩
      case round =>
        clear R2 B2
        obtain ⟨k, g, c, hk, rfl, rfl, hrow, hb⟩ := hrel
        have HR : Hid (RL wr v0.heap.size g c (LA ++ flatL seL d.S k)) := hrow
        have HB : Hid (Below v0.heap.size v0 wr) := hb
        have LL : (LA ++ flatL seL d.S k).length = m0 + k * 9 := by rw [List.length_append, flatL_se, LM.out]
        by_cases hlt : k < d.ns
        · have hlt' : (k : Int) < (d.ns : Int) := by omega
          obtain ⟨b, off, ha, hc⟩ := (VS.out.below hb).opened (by omega)
          cases ha
          obtain ⟨c0, c1, c2, c3⟩ := Els.seC hc k hlt
          have hok := (HD.out.2.2 k hlt).1
          obtain ⟨I, hI⟩ := Int.eq_ofNat_of_zero_le hok.1.1.1
          obtain ⟨Q, hQ⟩ := Int.eq_ofNat_of_zero_le (show 0 ≤ (d.S k).sq by have := hok.1.2.1; omega)
          obtain ⟨C, hC⟩ := Int.eq_ofNat_of_zero_le hok.2.1.1
          obtain ⟨M, hM⟩ := Int.eq_ofNat_of_zero_le hok.2.2.1
          have hC2 : C ≤ 19 := by have := hok.2.1.2; omega
          have EF : Hid (flatL seL d.S (k + 1) = flatL seL d.S k ++ (numL 2 I ++ numL 2 Q ++ [C] ++ numL 4 M)) := by
            show flatL seL d.S k ++ seL (d.S k) = _
            unfold seL
            rw [hI, hQ, hC, hM]
            rfl
          rw [hI] at c0
          rw [hQ] at c1
          rw [hC] at c2
          rw [hM] at c3
          have yC : (C : Int) % 256 = (C : Int) := by omega
          clear hok hc hb hI hQ hC hM
          obtain ⟨v2, hv2⟩ : ∃ v2, v2 = wr.alloc (.cells #[.int .i64 (I : Int), .int .i64 (Q : Int), .int .i64 (C : Int), .int .i64 (M : Int)] 100) := ⟨_, rfl⟩
          have hbr : Below wr.heap.size wr v2 := by rw [hv2]; exact (Below.refl _ _).alloc (Nat.le_refl _) _
          have Y : Hid (Box4 v2 wr.heap.size 100 (.int .i64 (I : Int)) (.int .i64 (Q : Int)) (.int .i64 (C : Int)) (.int .i64 (M : Int))) := by show Box4 _ _ _ _ _ _ _; rw [hv2]; exact Box4.madeAt rfl _ _ _ _ _
          have gl := HR.out.ge
          have B2 : Hid (Below v0.heap.size v0 v2) := HB.out.trans (hbr.mono HB.out.size)
          have R2 : Hid (RL v2 v0.heap.size g c (LA ++ flatL seL d.S k)) := HR.out.below hbr
          have NG : Hid (g ≠ wr.heap.size) := by show _ ≠ _; omega
          have RBL : Hid (wr.heap.size < v2.heap.size) := Y.out.lt
          have LA2 : Hid ((LA ++ flatL seL d.S k).length = m0 + k * 9) := LL
          have kk : k * 9 ≤ 54 := by omega
          clear hrow HR hbr gl LL
          go_wp2_with fail
          rw [← hv2]
          generalize wr.heap.size = rb at *
          clear hv2 HB
          have AN : Calls Tryd.prog 61 #[.slice (some ⟨g, 0, none⟩) (m0 + k * 9) c, .int .i64 (I : Int), .int .i64 2] v2 fun e w' => (∃ g' c', e = .returned (.slice (some ⟨g', 0, none⟩) (m0 + k * 9 + 2) c') ∧ RL w' v0.heap.size g' c' (LA ++ flatL seL d.S k ++ numL 2 I) ∧ (g' = g ∨ v2.heap.size ≤ g')) ∧ OnlyB g v2 w' := appendNumberL v0.heap.size g c I 2 _ (by omega) (by rw [LA2.out]; omega) v2 B2.out.size R2.out _ LA2.out.symm
          refine AN.mono ?_
          rintro e w3 ⟨⟨g3, c3', rfl, hrow3, hg3⟩, ho3⟩
          replace Y : Hid (Box4 w3 rb 100 (.int .i64 (I : Int)) (.int .i64 (Q : Int)) (.int .i64 (C : Int)) (.int .i64 (M : Int))) := Y.out.ofBlock (ho3.block _ Y.out.lt (fun e => NG.out e.symm))
          have B3 : Hid (Below v0.heap.size v0 w3) := B2.out.trans (ho3.toBelow R2.out.ge.1 B2.out.size)
          have R3 : Hid (RL w3 v0.heap.size g3 c3' (LA ++ flatL seL d.S k ++ numL 2 I)) := hrow3
          have L3 : Hid ((LA ++ flatL seL d.S k ++ numL 2 I).length = m0 + k * 9 + 2) := by show _ = _; rw [List.length_append, LA2.out, numL_length]
          replace NG : Hid (g3 ≠ rb) := by
            have := NG.out
            have := RBL.out
            show _ ≠ _
            rcases hg3 with e | e <;> omega
          replace RBL : Hid (rb < w3.heap.size) := Nat.lt_of_lt_of_le RBL.out ho3.size
          have y1 := Y.out.c1
          clear AN hrow3 hg3 ho3 R2 B2 LA2
          go_wp2_with fail
          clear y1
          have AN : Calls Tryd.prog 61 #[.slice (some ⟨g3, 0, none⟩) (m0 + k * 9 + 2) c3', .int .i64 (Q : Int), .int .i64 2] w3 fun e w' => (∃ g' c', e = .returned (.slice (some ⟨g', 0, none⟩) (m0 + k * 9 + 2 + 2) c') ∧ RL w' v0.heap.size g' c' (LA ++ flatL seL d.S k ++ numL 2 I ++ numL 2 Q) ∧ (g' = g3 ∨ w3.heap.size ≤ g')) ∧ OnlyB g3 w3 w' := appendNumberL v0.heap.size g3 c3' Q 2 _ (by omega) (by rw [L3.out]; omega) w3 B3.out.size R3.out _ L3.out.symm
          refine AN.mono ?_
          rintro e w4 ⟨⟨g4, c4', rfl, hrow4, hg4⟩, ho4⟩
          replace Y : Hid (Box4 w4 rb 100 (.int .i64 (I : Int)) (.int .i64 (Q : Int)) (.int .i64 (C : Int)) (.int .i64 (M : Int))) := Y.out.ofBlock (ho4.block _ Y.out.lt (fun e => NG.out e.symm))
          have B4 : Hid (Below v0.heap.size v0 w4) := B3.out.trans (ho4.toBelow R3.out.ge.1 B3.out.size)
          have L4 : (LA ++ flatL seL d.S k ++ numL 2 I ++ numL 2 Q).length = m0 + k * 9 + 2 + 2 := by rw [List.length_append, L3.out, numL_length]
          have NG4 : g4 ≠ rb := by
            have := NG.out
            have := RBL.out
            rcases hg4 with e | e <;> omega
          have RBL4 : rb < w4.heap.size := Nat.lt_of_lt_of_le RBL.out ho4.size
          have y2 := Y.out.c2
          obtain ⟨g5, c5, w5, hr5, hrow5, ho5, hg5⟩ := app1 w4 v0.heap.size g4 c4' (m0 + k * 9 + 2 + 2) _ C B4.out.size L4.symm (by omega) hrow4
          have Y5 : Box4 w5 rb 100 (.int .i64 (I : Int)) (.int .i64 (Q : Int)) (.int .i64 (C : Int)) (.int .i64 (M : Int)) := Y.out.ofBlock (ho5.block _ Y.out.lt (fun e => NG4 e.symm))
          have y3 := Y5.c3
          have B5 : Hid (Below v0.heap.size v0 w5) := B4.out.trans (ho5.toBelow hrow4.ge.1 B4.out.size)
          have R5 : Hid (RL w5 v0.heap.size g5 c5 (LA ++ flatL seL d.S k ++ numL 2 I ++ numL 2 Q ++ [C])) := hrow5
          have L5 : Hid ((LA ++ flatL seL d.S k ++ numL 2 I ++ numL 2 Q ++ [C]).length = m0 + k * 9 + 2 + 2 + 1) := by show _ = _; rw [List.length_append, L4]; rfl
          clear AN hrow4 hg4 ho4 R3 B3 L3 L4 hrow5 ho5 hg5 NG NG4 RBL RBL4 Y Y5 B4
          go_wp2_with (at_builtin; refine Lib.wpList_append_run _ rfl (.tmp 61) (.tmp 65) 40 40 rfl (.slice (some ⟨g4, 0, none⟩) (m0 + k * 9 + 2 + 2) c4') (.slice (some ⟨w4.heap.size, 0, none⟩) 1 1) rfl rfl _ _ (hr5 _) ?_)
          have AN : Calls Tryd.prog 61 #[.slice (some ⟨g5, 0, none⟩) (m0 + k * 9 + 2 + 2 + 1) c5, .int .i64 (M : Int), .int .i64 4] w5 fun e w' => (∃ g' c', e = .returned (.slice (some ⟨g', 0, none⟩) (m0 + k * 9 + 2 + 2 + 1 + 4) c') ∧ RL w' v0.heap.size g' c' (LA ++ flatL seL d.S k ++ numL 2 I ++ numL 2 Q ++ [C] ++ numL 4 M) ∧ (g' = g5 ∨ w5.heap.size ≤ g')) ∧ OnlyB g5 w5 w' := appendNumberL v0.heap.size g5 c5 M 4 _ (by omega) (by rw [L5.out]; omega) w5 B5.out.size R5.out _ L5.out.symm
          refine AN.mono ?_
          rintro e w6 ⟨⟨g6, c6, rfl, hrow6, hg6⟩, ho6⟩
          have B6 : Hid (Below v0.heap.size v0 w6) := B5.out.trans (ho6.toBelow R5.out.ge.1 B5.out.size)
          have R6 : Hid (RL w6 v0.heap.size g6 c6 (LA ++ flatL seL d.S (k + 1))) := by
            show RL _ _ _ _ _
            rw [EF.out]
            simpa [List.append_assoc] using hrow6
          have E6 : Hid (m0 + k * 9 + 2 + 2 + 1 + 4 = m0 + (k + 1) * 9) := by show _ = _; omega
          clear AN hrow6 hg6 ho6 R5 B5 L5 EF y2 y3 hr5
          go_wp2
          go_roundw
          case rel => exact ⟨k + 1, g6, c6, by omega, by go_num, by rw [E6.out], R6.out, B6.out⟩
          case measure => simp [intOf]; omega
        · obtain rfl : k = d.ns := by omega
          have hlt' : ¬ (d.ns : Int) < (d.ns : Int) := by omega
          have RZ : Hid (RL wr w.heap.size g c (bankL d)) := by
            show RL _ _ _ _ _
            unfold bankL
            rw [HLA.out]
            exact HR.out.mono WV.out
          have LZ : Hid ((bankL d).length = m0 + d.ns * 9) := by
            show _ = _
            unfold bankL
            rw [HLA.out, LL]
          clear hb hrow LL
          go_wp2
          go_ret2
          exact ⟨⟨g, c, by rw [LZ.out]; rfl, RZ.out⟩, A1.out.trans (HB.out.mono A1.out.size)⟩
end Go.Proofs.YtpngjkhncfbnpaaDoor
