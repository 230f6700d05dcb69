/-
  Draws of paths and data (written by a program out of DrawD, DrawD2).
-/
import Derived.Test.YtgcdoabcopihlaaGreatSrcN
import Derived.Test.YtgcdoabcopihlaaGreatE04
import Derived.Test.YtgcdoabcopihlaaGreatE07
import Derived.OwnWalk
import Derived.Test.YtgcdoabcopihlaaGreatRetCell
namespace Go.Proofs.YtgcdoabcopihlaaGreat
open Go.ChangeShapes Go.WideShapes Go.ChangeAt Go.RowKit
set_option linter.unusedVariables false
set_option maxRecDepth 100000 in
theorem pick_n (n : Nat) (hn : 2 ≤ n) (hn2 : n ≤ 256) (f : Nat → ByteArray) (g : Nat) (b : Nat) (a : Option Addr) (len cap A : Nat) (z : Nat → Nat) (hz : ∀ i, z i < 256) (hA : A ≤ 100000) (hl : len ≤ maxLen) (hsep : ∀ x, 0 < len → a = some x → x.block ≠ b) (w : World) (h : SrcA w b a len cap A) (hc : Code8 w a len z) (hg : g ≠ b) (hs : Strs w (some ⟨g, 0, none⟩) n f) :
    Calls Tryz.prog 42 #[.pointer (some ⟨b, 0, none⟩), .slice (some ⟨g, 0, none⟩) n n] w fun e w' => (∃ r : Nat, r < n ∧ e = .returned (.string (f r))) ∧ SrcA w' b a len cap (A + 1) ∧ OnlyB b w w' := by
  have NX : Hid (∀ w : World, SrcA w b a len cap A → Code8 w a len z → Calls Tryz.prog 38 #[.pointer (some ⟨b, 0, none⟩), .int .i64 (n : Int)] w fun e w' => (∃ r : Nat, r < n ∧ e = .returned (.int .i64 (r : Int))) ∧ SrcA w' b a len cap (A + 1) ∧ OnlyB b w w') := fun w h1 h2 => next_ex n hn hn2 b a len cap A z hz hA hl hsep w h1 h2
  have H : Hid (SrcA w b a len cap A) := h
  have HC : Hid (Code8 w a len z) := hc
  have HS : Hid (∀ i, i < n → g < w.heap.size ∧ w.cell? ⟨g, i, none⟩ = some (.string (f i))) := fun i hi => by
    obtain ⟨b', o', e, c⟩ := hs i hi
    cases e
    rw [Nat.zero_add] at c
    exact ⟨strBlock c, c⟩
  have n0 : ¬ (n : Int) = 0 := by omega
  have n1 : ((n : Int) == 0) = false := by simpa using n0
  clear h hc hsep hz hs
  go_enter Tryz.func42, Tryz.ntmps42
  go_wp2_with fail
  refine (NX.out _ H.out HC.out).mono ?_
  rintro e w1 ⟨⟨r, hr, rfl⟩, hs1, ho1⟩
  have c1 : w1.cell? ⟨g, r, none⟩ = some (.string (f r)) := by
    obtain ⟨q1, q2⟩ := HS.out r hr
    rw [World.cell?_of_block (w := w) (ho1.block g q1 hg)]
    exact q2
  have HS1 : Hid (SrcA w1 b a len cap (A + 1)) := hs1
  have HO1 : Hid (OnlyB b w w1) := ho1
  have x1 : (r : Int) < (n : Int) := by omega
  have x0 : ¬ (r : Int) < 0 := by omega
  clear hs1 ho1
  go_wp2
  go_ret
  exact ⟨⟨r, hr, rfl⟩, HS1.out, HO1.out⟩
theorem okc_sl {c : Int} (h : okc c = true) : c ≠ 47 := fun e => by subst e; exact absurd h (by decide)
theorem nm_path {x : ByteArray} (h : Nm x) : PathOk x := by
  refine ⟨h.2.1, fun y hy => ?_⟩
  have hs := scan_to x 0 0 x.size (by omega) (fun k _ hk => okc_sl (h.2.2.2 k (by omega)))
  rw [hs, scan_end _ _ _ (by omega)] at hy
  obtain rfl := List.mem_singleton.1 hy
  rw [ByteArray.extract_zero_size]
  exact h
theorem join_path {a b : ByteArray} (ha : PathOk a) (hb : PathOk b) (hl : (a ++ (⟨#[47]⟩ : ByteArray) ++ b).size ≤ 40) : PathOk (a ++ ⟨#[47]⟩ ++ b) := by
  refine ⟨hl, fun x hx => ?_⟩
  rw [scan_slash a b 0 0 (Nat.zero_le _)] at hx
  rcases List.mem_append.1 hx with q | q
  · exact ha.2 x q
  · exact hb.2 x q
def pthF (i : Nat) : ByteArray := if i = 0 then ⟨#[97]⟩ else if i = 1 then ⟨#[98]⟩ else if i = 2 then ⟨#[100, 105, 114]⟩ else if i = 3 then ⟨#[100, 105, 114, 47, 97]⟩ else if i = 4 then ⟨#[100, 105, 114, 47, 98]⟩ else if i = 5 then ⟨#[100, 105, 114, 47, 115, 117, 98]⟩ else if i = 6 then ⟨#[100, 105, 114, 47, 115, 117, 98, 47, 120]⟩ else if i = 7 then ⟨#[111, 116, 104, 101, 114]⟩ else ⟨#[111, 116, 104, 101, 114, 47, 97]⟩
def pthC : Array Value := #[.string ⟨#[97]⟩, .string ⟨#[98]⟩, .string ⟨#[100, 105, 114]⟩, .string ⟨#[100, 105, 114, 47, 97]⟩, .string ⟨#[100, 105, 114, 47, 98]⟩, .string ⟨#[100, 105, 114, 47, 115, 117, 98]⟩, .string ⟨#[100, 105, 114, 47, 115, 117, 98, 47, 120]⟩, .string ⟨#[111, 116, 104, 101, 114]⟩, .string ⟨#[111, 116, 104, 101, 114, 47, 97]⟩]
theorem pthC_strs (w : World) : Strs (w.alloc (.cells pthC 9)) (some ⟨w.heap.size, 0, none⟩) 9 pthF := fun i hi => by
  refine ⟨w.heap.size, 0, rfl, ?_⟩
  rw [Nat.zero_add]
  have hk : (w.alloc (.cells pthC 9)).heap[w.heap.size]? = some (.cells pthC 9 (0, 0)) := Deep.blk_alloc_new _ _
  generalize w.alloc (.cells pthC 9) = v at *
  match i, hi with
  | 0, _ => simp [World.cell?, hk, pthC, pthF]
  | 1, _ => simp [World.cell?, hk, pthC, pthF]
  | 2, _ => simp [World.cell?, hk, pthC, pthF]
  | 3, _ => simp [World.cell?, hk, pthC, pthF]
  | 4, _ => simp [World.cell?, hk, pthC, pthF]
  | 5, _ => simp [World.cell?, hk, pthC, pthF]
  | 6, _ => simp [World.cell?, hk, pthC, pthF]
  | 7, _ => simp [World.cell?, hk, pthC, pthF]
  | 8, _ => simp [World.cell?, hk, pthC, pthF]
theorem pthF_ok (i : Nat) : PathOk (pthF i) := by
  unfold pthF
  split
  · exact nm_path (by refine ⟨by decide, by decide, by decide, ?_⟩; decide)
  split
  · exact nm_path (by refine ⟨by decide, by decide, by decide, ?_⟩; decide)
  split
  · exact nm_path (by refine ⟨by decide, by decide, by decide, ?_⟩; decide)
  split
  · exact (join_path (a := ⟨#[100, 105, 114]⟩) (b := ⟨#[97]⟩) (nm_path (by refine ⟨by decide, by decide, by decide, ?_⟩; decide)) (nm_path (by refine ⟨by decide, by decide, by decide, ?_⟩; decide)) (by decide))
  split
  · exact (join_path (a := ⟨#[100, 105, 114]⟩) (b := ⟨#[98]⟩) (nm_path (by refine ⟨by decide, by decide, by decide, ?_⟩; decide)) (nm_path (by refine ⟨by decide, by decide, by decide, ?_⟩; decide)) (by decide))
  split
  · exact (join_path (a := ⟨#[100, 105, 114]⟩) (b := ⟨#[115, 117, 98]⟩) (nm_path (by refine ⟨by decide, by decide, by decide, ?_⟩; decide)) (nm_path (by refine ⟨by decide, by decide, by decide, ?_⟩; decide)) (by decide))
  split
  · exact (join_path (a := ⟨#[100, 105, 114]⟩) (b := ⟨#[115, 117, 98, 47, 120]⟩) (nm_path (by refine ⟨by decide, by decide, by decide, ?_⟩; decide)) ((join_path (a := ⟨#[115, 117, 98]⟩) (b := ⟨#[120]⟩) (nm_path (by refine ⟨by decide, by decide, by decide, ?_⟩; decide)) (nm_path (by refine ⟨by decide, by decide, by decide, ?_⟩; decide)) (by decide))) (by decide))
  split
  · exact nm_path (by refine ⟨by decide, by decide, by decide, ?_⟩; decide)
  · exact (join_path (a := ⟨#[111, 116, 104, 101, 114]⟩) (b := ⟨#[97]⟩) (nm_path (by refine ⟨by decide, by decide, by decide, ?_⟩; decide)) (nm_path (by refine ⟨by decide, by decide, by decide, ?_⟩; decide)) (by decide))
def drsF (i : Nat) : ByteArray := if i = 0 then ⟨#[100, 105, 114]⟩ else if i = 1 then ⟨#[111, 116, 104, 101, 114]⟩ else ⟨#[100, 105, 114, 47, 115, 117, 98]⟩
def drsC : Array Value := #[.string ⟨#[100, 105, 114]⟩, .string ⟨#[111, 116, 104, 101, 114]⟩, .string ⟨#[100, 105, 114, 47, 115, 117, 98]⟩]
theorem drsC_strs (w : World) : Strs (w.alloc (.cells drsC 9)) (some ⟨w.heap.size, 0, none⟩) 3 drsF := fun i hi => by
  refine ⟨w.heap.size, 0, rfl, ?_⟩
  rw [Nat.zero_add]
  have hk : (w.alloc (.cells drsC 9)).heap[w.heap.size]? = some (.cells drsC 9 (0, 0)) := Deep.blk_alloc_new _ _
  generalize w.alloc (.cells drsC 9) = v at *
  match i, hi with
  | 0, _ => simp [World.cell?, hk, drsC, drsF]
  | 1, _ => simp [World.cell?, hk, drsC, drsF]
  | 2, _ => simp [World.cell?, hk, drsC, drsF]
theorem drsF_ok (i : Nat) : PathOk (drsF i) := by
  unfold drsF
  split
  · exact nm_path (by refine ⟨by decide, by decide, by decide, ?_⟩; decide)
  split
  · exact nm_path (by refine ⟨by decide, by decide, by decide, ?_⟩; decide)
  · exact (join_path (a := ⟨#[100, 105, 114]⟩) (b := ⟨#[115, 117, 98]⟩) (nm_path (by refine ⟨by decide, by decide, by decide, ?_⟩; decide)) (nm_path (by refine ⟨by decide, by decide, by decide, ?_⟩; decide)) (by decide))
def daF (i : Nat) : ByteArray := if i = 0 then ⟨#[]⟩ else if i = 1 then ⟨#[97, 98, 99]⟩ else if i = 2 then ⟨#[98, 108, 111, 99, 107, 32, 111, 102, 32, 100, 97, 116, 97]⟩ else if i = 3 then ⟨#[48, 49, 50, 51, 52, 53, 54, 55, 56, 57, 97, 98, 99, 100, 101, 102]⟩ else ⟨#[120]⟩
theorem daF_size (i : Nat) : (daF i).size ≤ 16 := by
  unfold daF
  split
  · decide
  split
  · decide
  split
  · decide
  split
  · decide
  · decide
def daC : Array Value := #[.string ⟨#[]⟩, .string ⟨#[97, 98, 99]⟩, .string ⟨#[98, 108, 111, 99, 107, 32, 111, 102, 32, 100, 97, 116, 97]⟩, .string ⟨#[48, 49, 50, 51, 52, 53, 54, 55, 56, 57, 97, 98, 99, 100, 101, 102]⟩, .string ⟨#[120]⟩]
theorem daC_strs (w : World) : Strs (w.alloc (.cells daC 9)) (some ⟨w.heap.size, 0, none⟩) 5 daF := fun i hi => by
  refine ⟨w.heap.size, 0, rfl, ?_⟩
  rw [Nat.zero_add]
  have hk : (w.alloc (.cells daC 9)).heap[w.heap.size]? = some (.cells daC 9 (0, 0)) := Deep.blk_alloc_new _ _
  generalize w.alloc (.cells daC 9) = v at *
  match i, hi with
  | 0, _ => simp [World.cell?, hk, daC, daF]
  | 1, _ => simp [World.cell?, hk, daC, daF]
  | 2, _ => simp [World.cell?, hk, daC, daF]
  | 3, _ => simp [World.cell?, hk, daC, daF]
  | 4, _ => simp [World.cell?, hk, daC, daF]
set_option maxRecDepth 100000 in
theorem datum_f (b : Nat) (a : Option Addr) (len cap A : Nat) (z : Nat → Nat) (hz : ∀ i, z i < 256) (hA : A ≤ 100000) (hl : len ≤ maxLen) (hsep : ∀ x, 0 < len → a = some x → x.block ≠ b) (w : World) (h : SrcA w b a len cap A) (hc : Code8 w a len z) :
    Calls Tryz.prog 47 #[.pointer (some ⟨b, 0, none⟩)] w fun e w' => (∃ s : ByteArray, s.size ≤ 16 ∧ e = .returned (.string s)) ∧ SrcA w' b a len cap (A + 1) ∧ OnlyB b w w' := by
  have hbl := h.lt
  have L : Below w.heap.size w (w.alloc (.cells daC 9)) := (Below.refl _ _).alloc (Nat.le_refl _) _
  have PK : Hid (Calls Tryz.prog 42 #[.pointer (some ⟨b, 0, none⟩), .slice (some ⟨w.heap.size, 0, none⟩) 5 5] (w.alloc (.cells daC 9)) fun e w' => (∃ r : Nat, r < 5 ∧ e = .returned (.string (daF r))) ∧ SrcA w' b a len cap (A + 1) ∧ OnlyB b (w.alloc (.cells daC 9)) w') := pick_n 5 (by omega) (by omega) daF w.heap.size b a len cap A z hz hA hl hsep _ (h.below L) (hc.below L) (by omega) (daC_strs w)
  have HL : Hid (OnlyB b w (w.alloc (.cells daC 9))) := (OnlyB.refl b w).below L
  clear h hc hsep hz L
  unfold daC at PK HL
  go_enter Tryz.func47, Tryz.ntmps47
  go_wp2_with fail
  refine PK.out.mono ?_
  rintro e w1 ⟨⟨r, hr, rfl⟩, hs1, ho1⟩
  have HS1 : Hid (SrcA w1 b a len cap (A + 1)) := hs1
  have HO1 : Hid (OnlyB b w w1) := HL.out.trans ho1
  have HD : Hid ((daF r).size ≤ 16) := daF_size r
  clear hs1 ho1 PK HL
  generalize daF r = s at *
  go_wp2
  go_ret
  exact ⟨⟨s, HD.out, rfl⟩, HS1.out, HO1.out⟩
set_option maxRecDepth 100000 in
theorem size_14 (b : Nat) (a : Option Addr) (len cap A : Nat) (hl : len ≤ maxLen) (w : World) (h : SrcA w b a len cap A) :
    Calls Tryz.prog 39 #[.pointer (some ⟨b, 0, none⟩), .int .i64 14] w fun e w' => (∃ r : Nat, 1 ≤ r ∧ r ≤ 14 ∧ e = .returned (.int .i64 (r : Int))) ∧ w' = w := by
  have c0 := h.load0
  have hl' : (len : Int) ≤ 9223372036854775807 := by unfold maxLen at hl; omega
  have et : (len : Int).tdiv 12 = ((len / 12 : Nat) : Int) := (Int.ofNat_tdiv len 12).symm
  have eb : 12 * (len / 12) ≤ len := Nat.mul_div_le _ _
  have em : (len : Int) / 12 = ((len / 12 : Nat) : Int) := by omega
  clear h
  generalize len / 12 = M at *
  have y1 : (M : Int) + 1 ≤ 9223372036854775807 := by omega
  have y2 : (M : Int) ≤ 1000000000000000000 := by omega
  by_cases hM : (14 : Int) < 1 + (M : Int)
  · go_enter Tryz.func39, Tryz.ntmps39
    go_wp2
    go_ret
    refine ⟨⟨14, by omega, by omega, ?_⟩, rfl⟩
    go_num
  · go_enter Tryz.func39, Tryz.ntmps39
    go_wp2
    go_ret
    refine ⟨⟨1 + M, by omega, by omega, ?_⟩, rfl⟩
    go_num
set_option maxRecDepth 100000 in
theorem path_f (b : Nat) (a : Option Addr) (len cap A : Nat) (z : Nat → Nat) (hz : ∀ i, z i < 256) (hA : A ≤ 100000) (hl : len ≤ maxLen) (hsep : ∀ x, 0 < len → a = some x → x.block ≠ b) (w : World) (h : SrcA w b a len cap A) (hc : Code8 w a len z) :
    Calls Tryz.prog 40 #[.pointer (some ⟨b, 0, none⟩)] w fun e w' => (∃ s : ByteArray, PathOk s ∧ e = .returned (.string s)) ∧ SrcA w' b a len cap (A + 1) ∧ OnlyB b w w' := by
  have hbl := h.lt
  have L : Below w.heap.size w (w.alloc (.cells pthC 9)) := (Below.refl _ _).alloc (Nat.le_refl _) _
  have PK : Hid (Calls Tryz.prog 42 #[.pointer (some ⟨b, 0, none⟩), .slice (some ⟨w.heap.size, 0, none⟩) 9 9] (w.alloc (.cells pthC 9)) fun e w' => (∃ r : Nat, r < 9 ∧ e = .returned (.string (pthF r))) ∧ SrcA w' b a len cap (A + 1) ∧ OnlyB b (w.alloc (.cells pthC 9)) w') := pick_n 9 (by omega) (by omega) pthF w.heap.size b a len cap A z hz hA hl hsep _ (h.below L) (hc.below L) (by omega) (pthC_strs w)
  have HL : Hid (OnlyB b w (w.alloc (.cells pthC 9))) := (OnlyB.refl b w).below L
  clear h hc hsep hz L
  unfold pthC at PK HL
  go_enter Tryz.func40, Tryz.ntmps40
  go_wp2_with fail
  refine PK.out.mono ?_
  rintro e w1 ⟨⟨r, hr, rfl⟩, hs1, ho1⟩
  have HS1 : Hid (SrcA w1 b a len cap (A + 1)) := hs1
  have HO1 : Hid (OnlyB b w w1) := HL.out.trans ho1
  have HD : Hid (PathOk (pthF r)) := pthF_ok r
  clear hs1 ho1 PK HL
  generalize pthF r = s at *
  go_wp2
  go_ret
  exact ⟨⟨s, HD.out, rfl⟩, HS1.out, HO1.out⟩
theorem CtP.keeps {n : Nat} {F : Nat → Fi} {p : ByteArray} {k : Int} {m : Nat} {G : Nat → Fi} {c : Int} (h : FsOk n F) (hp : PathOk p) (hm : CtP n F p k m G c) : FsOk m G := by
  rcases hm with ⟨_, _, rfl, rfl⟩ | ⟨a, ⟨_, _, rfl, rfl⟩ | ⟨e, _, j, hj, ej, g⟩⟩
  · exact h
  · exact h
  · refine g.keeps h ⟨hp, ?_, fun q => by cases q⟩ (fun q => absurd ej (q j hj)) (fun t ht et => ?_)
    · show (cutT (F j).t k.toNat).size ≤ 200
      unfold cutT
      rw [kstr_size]
      omega
    · rcases a with ⟨q, _⟩ | ⟨y, hy, ey, ⟨_, q⟩ | ⟨q, _⟩⟩
      · exact absurd ej (q j hj)
      · cases q
      · rw [h.srt.uniq ht hy (et.trans ey.symm)]; exact q
theorem WrP.keeps {n : Nat} {F : Nat → Fi} {p : ByteArray} {k : Int} {s : ByteArray} {m : Nat} {G : Nat → Fi} {c : Int} (h : FsOk n F) (hp : PathOk p) (hm : WrP n F p k s m G c) : FsOk m G := by
  obtain ⟨y, hy, hm⟩ := hm
  rcases hm with ⟨_, _, rfl, rfl⟩ | ⟨e, ⟨_, _, rfl, rfl⟩ | ⟨r, ⟨_, _, _, rfl, rfl⟩ | ⟨q, _, g⟩⟩⟩
  · exact h
  · exact h
  · exact h
  · have hys : y.t.size ≤ 200 := by
      rcases hy with ⟨j, hj, _, rfl⟩ | ⟨_, rfl⟩
      · exact (h.2 j hj).1.2.1
      · show (0 : Nat) ≤ 200; omega
    refine g.keeps h ⟨hp, ?_, fun q => by cases q⟩ (fun hn => ?_) (fun t ht et => ?_)
    · show (wrT y.t k.toNat s).size ≤ 200
      unfold wrT
      rw [kstr_size]
      omega
    · rcases q with ⟨j, hj, ej⟩ | q
      · exact absurd ej (hn j hj)
      · exact q.home
    · rcases hy with ⟨j, hj, ej, rfl⟩ | ⟨hn, _⟩
      · rw [h.srt.uniq ht hj (et.trans ej.symm)]; exact e
      · exact absurd et (hn t ht)
end Go.Proofs.YtgcdoabcopihlaaGreat

/-
  Draws of files (written by tools/mkdrawg.py).
-/
namespace Go.Proofs.YtgcdoabcopihlaaGreat
open Go.ChangeShapes Go.WideShapes Go.ChangeAt Go.RowKit
set_option linter.unusedVariables false
/-- Right files lie so, and the source has drawn at most A times. -/
structure FlS (w u : World) (b : Nat) (a : Option Addr) (len cap A : Nat) (o : Option Addr) (m c : Nat) (F : Nat → Fi) : Prop where
  ok : FsOk m F
  sl : SlP o m c
  el : Els u 3 o m (fiF F)
  ne : ∀ x, o = some x → x.block ≠ b
  src : SrcA u b a len cap A
  kp : OnlyB b w u
theorem FlS.draw {w u u' : World} {b : Nat} {a : Option Addr} {len cap A A' : Nat} {o : Option Addr} {m c : Nat} {F : Nat → Fi} (h : FlS w u b a len cap A o m c F) (hs : SrcA u' b a len cap A') (ho : OnlyB b u u') : FlS w u' b a len cap A' o m c F :=
  ⟨h.ok, h.sl, fun i hi => by
    obtain ⟨g, off, e, hc⟩ := h.el i hi
    have hg : g < u.heap.size := strBlock (hc 0 (by omega))
    exact ⟨g, off, e, fun j hj => by rw [World.cell?_of_block (w := u) (ho.block g hg (h.ne _ e))]; exact hc j hj⟩, h.ne, hs, h.kp.trans ho⟩
theorem FlS.call {w u u' : World} {b : Nat} {a : Option Addr} {len cap A : Nat} {o o' : Option Addr} {m c m' c' : Nat} {F G : Nat → Fi} (h : FlS w u b a len cap A o m c F) (hb : Below u.heap.size u u') (he : Els u' 3 o' m' (fiF G)) (hs : SlQ (fun x => x ≠ b) u.heap.size o' m' c') (ho : FsOk m' G) {A' : Nat} (hA : A ≤ A') : FlS w u' b a len cap A' o' m' c' G :=
  ⟨ho, hs.1, he, fun x e => (hs.2 x e).elim id (fun q => by have := h.src.lt; omega), (h.src.below hb).mono hA, h.kp.belowS hb h.kp.size⟩
set_option maxRecDepth 100000 in
set_option maxHeartbeats 4000000 in
theorem files_ex (b : Nat) (a : Option Addr) (len cap A : Nat) (z : Nat → Nat) (hz : ∀ i, z i < 256) (hA : A ≤ 90000) (hl : len ≤ maxLen) (hsep : ∀ x, 0 < len → a = some x → x.block ≠ b) (w : World) (h : SrcA w b a len cap A) (hc : Code8 w a len z) :
    Calls Tryz.prog 20 #[.pointer (some ⟨b, 0, none⟩)] w fun e w' => (∃ (o : Option Addr) (m c : Nat) (F : Nat → Fi), e = .returned (.slice o m c) ∧ FsOk m F ∧ EO w' w.heap.size 51 3 (.slice o m c) m (fiF F)) ∧ SrcA w' b a len cap (A + 100) ∧ OnlyB b w w' := by
  have NX8 : Hid (∀ (A : Nat) (u : World), A ≤ 100000 → SrcA u b a len cap A → Code8 u a len z → Calls Tryz.prog 38 #[.pointer (some ⟨b, 0, none⟩), .int .i64 8] u fun e w' => (∃ r : Nat, r < 8 ∧ e = .returned (.int .i64 (r : Int))) ∧ SrcA w' b a len cap (A + 1) ∧ OnlyB b u w') := fun A u h1 h2 h3 => next_ex 8 (by omega) (by omega) b a len cap A z hz h1 hl hsep u h2 h3
  have NX6 : Hid (∀ (A : Nat) (u : World), A ≤ 100000 → SrcA u b a len cap A → Code8 u a len z → Calls Tryz.prog 38 #[.pointer (some ⟨b, 0, none⟩), .int .i64 6] u fun e w' => (∃ r : Nat, r < 6 ∧ e = .returned (.int .i64 (r : Int))) ∧ SrcA w' b a len cap (A + 1) ∧ OnlyB b u w') := fun A u h1 h2 h3 => next_ex 6 (by omega) (by omega) b a len cap A z hz h1 hl hsep u h2 h3
  have NX9 : Hid (∀ (A : Nat) (u : World), A ≤ 100000 → SrcA u b a len cap A → Code8 u a len z → Calls Tryz.prog 38 #[.pointer (some ⟨b, 0, none⟩), .int .i64 9] u fun e w' => (∃ r : Nat, r < 9 ∧ e = .returned (.int .i64 (r : Int))) ∧ SrcA w' b a len cap (A + 1) ∧ OnlyB b u w') := fun A u h1 h2 h3 => next_ex 9 (by omega) (by omega) b a len cap A z hz h1 hl hsep u h2 h3
  have NXS : Hid (∀ (s A : Nat) (u : World), s ≤ 14 → A ≤ 100000 → SrcA u b a len cap A → Code8 u a len z → Calls Tryz.prog 38 #[.pointer (some ⟨b, 0, none⟩), .int .i64 ((s : Int) + 4)] u fun e w' => (∃ r : Nat, r < s + 4 ∧ e = .returned (.int .i64 (r : Int))) ∧ SrcA w' b a len cap (A + 1) ∧ OnlyB b u w') := fun s A u h0 h1 h2 h3 => next_ex (s + 4) (by omega) (by omega) b a len cap A z hz h1 hl hsep u h2 h3
  have SZ : Hid (∀ (A : Nat) (u : World), SrcA u b a len cap A → Calls Tryz.prog 39 #[.pointer (some ⟨b, 0, none⟩), .int .i64 14] u fun e w' => (∃ r : Nat, 1 ≤ r ∧ r ≤ 14 ∧ e = .returned (.int .i64 (r : Int))) ∧ w' = u) := fun A u h1 => size_14 b a len cap A hl u h1
  have PA : Hid (∀ (A : Nat) (u : World), A ≤ 100000 → SrcA u b a len cap A → Code8 u a len z → Calls Tryz.prog 40 #[.pointer (some ⟨b, 0, none⟩)] u fun e w' => (∃ s : ByteArray, PathOk s ∧ e = .returned (.string s)) ∧ SrcA w' b a len cap (A + 1) ∧ OnlyB b u w') := fun A u h1 h2 h3 => path_f b a len cap A z hz h1 hl hsep u h2 h3
  have DT : Hid (∀ (A : Nat) (u : World), A ≤ 100000 → SrcA u b a len cap A → Code8 u a len z → Calls Tryz.prog 47 #[.pointer (some ⟨b, 0, none⟩)] u fun e w' => (∃ s : ByteArray, s.size ≤ 16 ∧ e = .returned (.string s)) ∧ SrcA w' b a len cap (A + 1) ∧ OnlyB b u w') := fun A u h1 h2 h3 => datum_f b a len cap A z hz h1 hl hsep u h2 h3
  have PK : Hid (∀ (A : Nat) (u : World), A ≤ 100000 → SrcA u b a len cap A → Code8 u a len z → Calls Tryz.prog 42 #[.pointer (some ⟨b, 0, none⟩), .slice (some ⟨u.heap.size, 0, none⟩) 3 3] (u.alloc (.cells drsC 9)) fun e w' => (∃ s : ByteArray, PathOk s ∧ e = .returned (.string s)) ∧ SrcA w' b a len cap (A + 1) ∧ OnlyB b u w') := fun A u h1 h2 h3 => by
    have hbl := h2.lt
    have LB : Below u.heap.size u (u.alloc (.cells drsC 9)) := (Below.refl _ _).alloc (Nat.le_refl _) _
    refine (pick_n 3 (by omega) (by omega) drsF u.heap.size b a len cap A z hz h1 hl hsep _ (h2.below LB) (h3.below LB) (by omega) (drsC_strs u)).mono ?_
    rintro e w' ⟨⟨r, _, rfl⟩, hs, ho⟩
    exact ⟨⟨_, drsF_ok r, rfl⟩, hs, ((OnlyB.refl b u).below LB).trans ho⟩
  unfold drsC at PK
  have MK : Hid (∀ (A' A : Nat) (o : Option Addr) (m c : Nat) (F : Nat → Fi) (p : ByteArray) (u : World), A ≤ A' → FlS w u b a len cap A o m c F → PathOk p → Calls Tryz.prog 41 #[.slice o m c, .string p] u fun e w' => ∃ (o' : Option Addr) (m' c' : Nat) (G : Nat → Fi) (cd : Int), e = .returned (.tuple #[.slice o' m' c', .int .i64 cd]) ∧ FlS w w' b a len cap A' o' m' c' G) := by
    intro A' A o m c F p u h0 h1 h2
    refine (l11Mkdir_any o m c F p h1.ok.srt h2.1 h1.ok.1 h1.sl (fun x => x ≠ b) h1.ne u h1.el).mono ?_
    rintro e w' ⟨⟨o', m', c', G, cd, rfl, hE, hS, hM⟩, hb⟩
    exact ⟨o', m', c', G, cd, rfl, h1.call hb hE hS (hM.keeps h1.ok h2) h0⟩
  have RM : Hid (∀ (A' A : Nat) (o : Option Addr) (m c : Nat) (F : Nat → Fi) (p : ByteArray) (u : World), A ≤ A' → FlS w u b a len cap A o m c F → PathOk p → Calls Tryz.prog 44 #[.slice o m c, .string p] u fun e w' => ∃ (o' : Option Addr) (m' c' : Nat) (G : Nat → Fi) (cd : Int), e = .returned (.tuple #[.slice o' m' c', .int .i64 cd]) ∧ FlS w w' b a len cap A' o' m' c' G) := by
    intro A' A o m c F p u h0 h1 h2
    refine (l11Remove_any o m c F p h1.ok.srt h2.1 h1.ok.1 h1.sl (fun x => x ≠ b) h1.ne u h1.el).mono ?_
    rintro e w' ⟨⟨o', m', c', G, cd, rfl, hE, hS, hM⟩, hb⟩
    exact ⟨o', m', c', G, cd, rfl, h1.call hb hE hS (hM.keeps h1.ok) h0⟩
  have CT : Hid (∀ (A' A : Nat) (o : Option Addr) (m c : Nat) (F : Nat → Fi) (p : ByteArray) (y : Int) (u : World), A ≤ A' → FlS w u b a len cap A o m c F → PathOk p → Calls Tryz.prog 45 #[.slice o m c, .string p, .int .i64 y] u fun e w' => ∃ (o' : Option Addr) (m' c' : Nat) (G : Nat → Fi) (cd : Int), e = .returned (.tuple #[.slice o' m' c', .int .i64 cd]) ∧ FlS w w' b a len cap A' o' m' c' G) := by
    intro A' A o m c F p y u h0 h1 h2
    refine (l11Cut_any o m c F p y h1.ok h2.1 h1.sl (fun x => x ≠ b) h1.ne u h1.el).mono ?_
    rintro e w' ⟨⟨o', m', c', G, cd, rfl, hE, hS, hM⟩, hb⟩
    exact ⟨o', m', c', G, cd, rfl, h1.call hb hE hS (hM.keeps h1.ok h2) h0⟩
  have WR : Hid (∀ (A' A : Nat) (o : Option Addr) (m c : Nat) (F : Nat → Fi) (p : ByteArray) (y : Int) (d : ByteArray) (u : World), A ≤ A' → FlS w u b a len cap A o m c F → PathOk p ∧ d.size ≤ 16 → Calls Tryz.prog 46 #[.slice o m c, .string p, .int .i64 y, .string d] u fun e w' => ∃ (o' : Option Addr) (m' c' : Nat) (G : Nat → Fi) (cd : Int), e = .returned (.tuple #[.slice o' m' c', .int .i64 cd]) ∧ FlS w w' b a len cap A' o' m' c' G) := by
    intro A' A o m c F p y d u h0 h1 h2
    refine (l11Write_any o m c F p y d h1.ok h2.1.1 (by omega) h1.sl (fun x => x ≠ b) h1.ne u h1.el).mono ?_
    rintro e w' ⟨⟨o', m', c', G, cd, rfl, hE, hS, hM⟩, hb⟩
    exact ⟨o', m', c', G, cd, rfl, h1.call hb hE hS (hM.keeps h1.ok h2.1) h0⟩
  have MV : Hid (∀ (A' A : Nat) (o : Option Addr) (m c : Nat) (F : Nat → Fi) (p t : ByteArray) (u : World), A ≤ A' → FlS w u b a len cap A o m c F → PathOk p ∧ PathOk t → Calls Tryz.prog 43 #[.slice o m c, .string p, .string t] u fun e w' => ∃ (o' : Option Addr) (m' c' : Nat) (G : Nat → Fi) (cd : Int), e = .returned (.tuple #[.slice o' m' c', .int .i64 cd]) ∧ FlS w w' b a len cap A' o' m' c' G) := by
    intro A' A o m c F p t u h0 h1 h2
    refine (l11Move_any o m c F p t h1.ok h2.1 h2.2 h1.sl (fun x => x ≠ b) h1.ne u h1.el).mono ?_
    rintro e w' ⟨⟨o', m', c', G, cd, rfl, hE, hS, hM⟩, hb⟩
    exact ⟨o', m', c', G, cd, rfl, h1.call hb hE hS (hM.keeps h1.ok h2.1 h2.2) h0⟩
  have HC : Hid (Code8 w a len z) := hc
  have HSEP : Hid (∀ x, 0 < len → a = some x → x.block ≠ b) := hsep
  have hbl : b < w.heap.size := h.lt
  have LB0 : Below w.heap.size w (w.alloc (.cells #[] 51)) := (Below.refl _ _).alloc (Nat.le_refl _) _
  have H0 : Hid (SrcA (w.alloc (.cells #[] 51)) b a len cap A) := h.below LB0
  have HC0 : Hid (Code8 (w.alloc (.cells #[] 51)) a len z) := hc.below LB0
  have FZ : Hid (FlS w (w.alloc (.cells #[] 51)) b a len cap A (some ⟨w.heap.size, 0, none⟩) 0 0 (fun _ => fiZ)) := ⟨⟨by omega, fun i hi => absurd hi (by omega)⟩, ⟨(fun e => by cases e), .inr ⟨_, _, rfl⟩, Nat.le_refl _, by unfold maxLen; omega⟩, fun i hi => absurd hi (by omega), (fun x e => by cases e; show w.heap.size ≠ b; omega), H0.out, (OnlyB.refl b w).below LB0⟩
  clear h hc hsep hz LB0
  go_enter Tryz.func20, Tryz.ntmps20
  go_wp2_with fail
  refine (SZ.out _ _ H0.out).mono ?_
  rintro e w1 ⟨⟨s, hsa, hs2, rfl⟩, hw⟩
  cases hw
  go_wp2_with fail
  refine (NXS.out s _ _ hs2 (by omega) H0.out HC0.out).mono ?_
  rintro e w1 ⟨⟨k, hk, rfl⟩, hs1, ho1⟩
  have FL : Hid (FlS w w1 b a len cap (A + 1) (some ⟨w.heap.size, 0, none⟩) 0 0 (fun _ => fiZ)) := FZ.out.draw hs1 ho1
  clear hs1 ho1 H0 HC0 FZ SZ NXS
  have hk17 : k ≤ 17 := by omega
  clear hk hs2 hsa
  go_wp2_with fail
  go_loopw [3, 4] (fun v i wr => ∃ (q m c : Nat) (o : Option Addr) (F : Nat → Fi), q ≤ k ∧ i = .int .i64 ((k : Int) - (q : Int)) ∧ v = .slice o m c ∧ FlS w wr b a len cap (A + 1 + 4 * q) o m c F) (fun _ i _ => (intOf i).toNat)
  case atStart => exact ⟨0, 0, 0, _, _, by omega, numEqK (by omega), rfl, FL.out⟩
  case round =>
    clear FL
    obtain ⟨q, m, c, o, F, hq, rfl, rfl, hF⟩ := hrel
    have FL : Hid (FlS w wr b a len cap (A + 1 + 4 * q) o m c F) := hF
    have HCr : Hid (Code8 wr a len z) := HC.out.onlyB hF.kp HSEP.out
    clear hF
    by_cases hlt : q < k
    · have x1 : (0 : Int) < (k : Int) - (q : Int) := by omega
      have HK : Hid ((k : Int) - (q : Int) - 1 = (k : Int) - ((q + 1 : Nat) : Int)) := by show (k : Int) - (q : Int) - 1 = _; omega
      go_wp2_with fail
      refine (PA.out (A + 1 + 4 * q) _ (by omega) FL.out.src HCr.out).mono ?_
      rintro e u1 ⟨⟨p, hp, rfl⟩, hs1, ho1⟩
      have F1 : Hid (FlS w u1 b a len cap (A + 1 + 4 * q + 1) o m c F) := FL.out.draw hs1 ho1
      have HP : Hid (PathOk p) := hp
      have C1 : Hid (Code8 u1 a len z) := HC.out.onlyB F1.out.kp HSEP.out
      clear hs1 ho1 hp FL HCr
      go_wp2_with fail
      refine (NX8.out (A + 1 + 4 * q + 1) _ (by omega) F1.out.src C1.out).mono ?_
      rintro e u2 ⟨⟨r, hr, rfl⟩, hs2, ho2⟩
      have F2 : Hid (FlS w u2 b a len cap (A + 1 + 4 * q + 1 + 1) o m c F) := F1.out.draw hs2 ho2
      have C2 : Hid (Code8 u2 a len z) := HC.out.onlyB F2.out.kp HSEP.out
      clear hs2 ho2 F1 C1
      have hr' : r = 0 ∨ r = 1 ∨ r = 2 ∨ r = 3 ∨ r = 4 ∨ 5 ≤ r := by omega
      rcases hr' with rfl | rfl | rfl | rfl | rfl | h5
      · go_wp2_with fail
        refine (PK.out (A + 1 + 4 * q + 1 + 1) _ (by omega) F2.out.src C2.out).mono ?_
        rintro e u3 ⟨⟨d, hd, rfl⟩, hs3, ho3⟩
        have F3 : Hid (FlS w u3 b a len cap (A + 1 + 4 * q + 1 + 1 + 1) o m c F) := F2.out.draw hs3 ho3
        have C3 : Hid (Code8 u3 a len z) := HC.out.onlyB F3.out.kp HSEP.out
        have HD : Hid (PathOk d) := hd
        clear hs3 ho3 F2 C2
        clear hd
        go_wp2_with fail
        refine (MK.out (A + 1 + 4 * (q + 1)) _ _ _ _ F d u3 (by omega) F3.out HD.out).mono ?_
        rintro e u9 ⟨o', m', c', G, cd, rfl, hF9⟩
        have F9 : Hid (FlS w u9 b a len cap (A + 1 + 4 * (q + 1)) o' m' c' G) := hF9
        clear hF9
        go_wp2
        go_roundw
        case rel => exact ⟨q + 1, m', c', o', G, by omega, numEqK HK.out, rfl, F9.out⟩
        case measure => simp [intOf]; omega
      · go_wp2_with fail
        refine (PK.out (A + 1 + 4 * q + 1 + 1) _ (by omega) F2.out.src C2.out).mono ?_
        rintro e u3 ⟨⟨d, hd, rfl⟩, hs3, ho3⟩
        have F3 : Hid (FlS w u3 b a len cap (A + 1 + 4 * q + 1 + 1 + 1) o m c F) := F2.out.draw hs3 ho3
        have C3 : Hid (Code8 u3 a len z) := HC.out.onlyB F3.out.kp HSEP.out
        have HD : Hid (PathOk d) := hd
        clear hs3 ho3 F2 C2
        clear hd
        go_wp2_with fail
        refine (MK.out (A + 1 + 4 * (q + 1)) _ _ _ _ F d u3 (by omega) F3.out HD.out).mono ?_
        rintro e u9 ⟨o', m', c', G, cd, rfl, hF9⟩
        have F9 : Hid (FlS w u9 b a len cap (A + 1 + 4 * (q + 1)) o' m' c' G) := hF9
        clear hF9
        go_wp2
        go_roundw
        case rel => exact ⟨q + 1, m', c', o', G, by omega, numEqK HK.out, rfl, F9.out⟩
        case measure => simp [intOf]; omega
      · go_wp2_with fail
        refine (PA.out (A + 1 + 4 * q + 1 + 1) _ (by omega) F2.out.src C2.out).mono ?_
        rintro e u3 ⟨⟨d, hd, rfl⟩, hs3, ho3⟩
        have F3 : Hid (FlS w u3 b a len cap (A + 1 + 4 * q + 1 + 1 + 1) o m c F) := F2.out.draw hs3 ho3
        have C3 : Hid (Code8 u3 a len z) := HC.out.onlyB F3.out.kp HSEP.out
        have HD : Hid (PathOk d) := hd
        clear hs3 ho3 F2 C2
        clear hd
        go_wp2_with fail
        refine (MV.out (A + 1 + 4 * (q + 1)) _ _ _ _ F p d u3 (by omega) F3.out ⟨HP.out, HD.out⟩).mono ?_
        rintro e u9 ⟨o', m', c', G, cd, rfl, hF9⟩
        have F9 : Hid (FlS w u9 b a len cap (A + 1 + 4 * (q + 1)) o' m' c' G) := hF9
        clear hF9
        go_wp2
        go_roundw
        case rel => exact ⟨q + 1, m', c', o', G, by omega, numEqK HK.out, rfl, F9.out⟩
        case measure => simp [intOf]; omega
      · go_wp2_with fail
        refine (RM.out (A + 1 + 4 * (q + 1)) _ _ _ _ F p u2 (by omega) F2.out HP.out).mono ?_
        rintro e u9 ⟨o', m', c', G, cd, rfl, hF9⟩
        have F9 : Hid (FlS w u9 b a len cap (A + 1 + 4 * (q + 1)) o' m' c' G) := hF9
        clear hF9
        go_wp2
        go_roundw
        case rel => exact ⟨q + 1, m', c', o', G, by omega, numEqK HK.out, rfl, F9.out⟩
        case measure => simp [intOf]; omega
      · go_wp2_with fail
        refine (NX9.out (A + 1 + 4 * q + 1 + 1) _ (by omega) F2.out.src C2.out).mono ?_
        rintro e u3 ⟨⟨y, hy, rfl⟩, hs3, ho3⟩
        have F3 : Hid (FlS w u3 b a len cap (A + 1 + 4 * q + 1 + 1 + 1) o m c F) := F2.out.draw hs3 ho3
        have C3 : Hid (Code8 u3 a len z) := HC.out.onlyB F3.out.kp HSEP.out
        clear hs3 ho3 F2 C2
        clear hy
        go_wp2_with fail
        refine (CT.out (A + 1 + 4 * (q + 1)) _ _ _ _ F p (y : Int) u3 (by omega) F3.out HP.out).mono ?_
        rintro e u9 ⟨o', m', c', G, cd, rfl, hF9⟩
        have F9 : Hid (FlS w u9 b a len cap (A + 1 + 4 * (q + 1)) o' m' c' G) := hF9
        clear hF9
        go_wp2
        go_roundw
        case rel => exact ⟨q + 1, m', c', o', G, by omega, numEqK HK.out, rfl, F9.out⟩
        case measure => simp [intOf]; omega
      · have n0 : ¬ (r : Int) = 0 := by omega
        have n1 : ¬ (r : Int) = 1 := by omega
        have n2 : ¬ (r : Int) = 2 := by omega
        have n3 : ¬ (r : Int) = 3 := by omega
        have n4 : ¬ (r : Int) = 4 := by omega
        have e0 : ((r : Int) == 0) = false := by simpa using n0
        have e1 : ((r : Int) == 1) = false := by simpa using n1
        have e2 : ((r : Int) == 2) = false := by simpa using n2
        have e3 : ((r : Int) == 3) = false := by simpa using n3
        have e4 : ((r : Int) == 4) = false := by simpa using n4
        clear n0 n1 n2 n3 n4 h5
        go_wp2_with fail
        refine (NX6.out (A + 1 + 4 * q + 1 + 1) _ (by omega) F2.out.src C2.out).mono ?_
        rintro e u3 ⟨⟨y, hy, rfl⟩, hs3, ho3⟩
        have F3 : Hid (FlS w u3 b a len cap (A + 1 + 4 * q + 1 + 1 + 1) o m c F) := F2.out.draw hs3 ho3
        have C3 : Hid (Code8 u3 a len z) := HC.out.onlyB F3.out.kp HSEP.out
        clear hs3 ho3 F2 C2
        clear hy
        go_wp2_with fail
        refine (DT.out (A + 1 + 4 * q + 1 + 1 + 1) _ (by omega) F3.out.src C3.out).mono ?_
        rintro e u4 ⟨⟨d, hd, rfl⟩, hs4, ho4⟩
        have F4 : Hid (FlS w u4 b a len cap (A + 1 + 4 * q + 1 + 1 + 1 + 1) o m c F) := F3.out.draw hs4 ho4
        have C4 : Hid (Code8 u4 a len z) := HC.out.onlyB F4.out.kp HSEP.out
        have HD : Hid (d.size ≤ 16) := hd
        clear hs4 ho4 F3 C3
        clear hd
        go_wp2_with fail
        refine (WR.out (A + 1 + 4 * (q + 1)) _ _ _ _ F p (y : Int) d u4 (by omega) F4.out ⟨HP.out, HD.out⟩).mono ?_
        rintro e u9 ⟨o', m', c', G, cd, rfl, hF9⟩
        have F9 : Hid (FlS w u9 b a len cap (A + 1 + 4 * (q + 1)) o' m' c' G) := hF9
        clear hF9
        go_wp2
        go_roundw
        case rel => exact ⟨q + 1, m', c', o', G, by omega, numEqK HK.out, rfl, F9.out⟩
        case measure => simp [intOf]; omega
    · have x1 : ¬ (0 : Int) < (k : Int) - (q : Int) := by omega
      obtain ⟨a3, c3, v3, hr, ho3, hb3⟩ := ownAll (by have := FL.out.ok.1; omega) FL.out.el FL.out.sl.z
      have HR : Hid (EO v3 w.heap.size 51 3 (.slice a3 m c3) m (fiF F)) := ho3.mono FL.out.kp.size
      have HS : Hid (SrcA v3 b a len cap (A + 100)) := (FL.out.src.below hb3).mono (by omega)
      have HO : Hid (OnlyB b w v3) := FL.out.kp.belowS hb3 FL.out.kp.size
      have HF : Hid (FsOk m F) := FL.out.ok
      clear ho3 hb3 FL HCr
      go_wp2_with (at_builtin; refine Lib.wpList_append_run _ rfl (.tmp 69) (.tmp 70) 23 23 rfl (.slice (some ⟨wr.heap.size, 0, none⟩) 0 0) (.slice o m c) rfl rfl _ _ (hr _) ?_)
      go_ret
      exact ⟨⟨a3, m, c3, rfl, F, HF.out, HR.out⟩, HS.out, HO.out⟩
set_option maxRecDepth 100000 in
theorem filesOf_ex (a : Option Addr) (len cap : Nat) (z : Nat → Nat) (hz : ∀ i, z i < 256) (hl : len ≤ maxLen) (w : World) (hc : Code8 w a len z) :
    Calls Tryz.prog 5 #[.slice a len cap] w fun e w' => (∃ (o : Option Addr) (m c : Nat) (F : Nat → Fi), e = .returned (.slice o m c) ∧ FsOk m F ∧ EO w' w.heap.size 51 3 (.slice o m c) m (fiF F)) ∧ Below w.heap.size w w' := by
  have HC : Hid (Code8 w a len z) := hc
  have SR : Hid (Calls Tryz.prog 19 #[.slice a len cap] w fun e w' => e = .returned (.pointer (some ⟨w.heap.size, 0, none⟩)) ∧ Src w' w.heap.size a len cap 0 (len % 1000) ∧ Below w.heap.size w w') := source_any a len cap hl w
  clear hc
  go_enter Tryz.func5, Tryz.ntmps5
  go_wp2_with fail
  refine SR.out.mono ?_
  rintro e w1 ⟨rfl, hs, hb⟩
  have IM : Hid (Calls Tryz.prog 20 #[.pointer (some ⟨w.heap.size, 0, none⟩)] w1 fun e w' => (∃ (o : Option Addr) (m c : Nat) (F : Nat → Fi), e = .returned (.slice o m c) ∧ FsOk m F ∧ EO w' w1.heap.size 51 3 (.slice o m c) m (fiF F)) ∧ SrcA w' w.heap.size a len cap (0 + 100) ∧ OnlyB w.heap.size w1 w') := files_ex w.heap.size a len cap 0 z hz (by omega) hl (fun x h0 hx => Nat.ne_of_lt (HC.out.lt x h0 hx)) w1 ⟨0, len % 1000, by omega, by omega, hs⟩ (HC.out.below hb)
  have HB : Hid (Below w.heap.size w w1) := hb
  clear hs hb SR hz hl
  go_wp2_with fail
  refine IM.out.mono ?_
  rintro e w2 ⟨⟨o, m, c, F, rfl, hF, hE⟩, _, ho⟩
  have HR : Hid (EO w2 w.heap.size 51 3 (.slice o m c) m (fiF F)) := hE.mono HB.out.size
  have HF : Hid (FsOk m F) := hF
  have HB2 : Hid (Below w.heap.size w w2) := HB.out.trans (ho.toBelow (Nat.le_refl _) HB.out.size)
  clear hE hF ho IM
  go_wp2
  go_ret
  exact ⟨⟨o, m, c, F, rfl, HF.out, HR.out⟩, HB2.out⟩
end Go.Proofs.YtgcdoabcopihlaaGreat

/-
  A drawn call on files: fileCall of the source, FileCallOf, DatumOf (written by tools/mkdrawh.py).
-/
namespace Go.Proofs.YtgcdoabcopihlaaGreat
open Go.ChangeShapes Go.WideShapes Go.ChangeAt Go.RowKit
set_option linter.unusedVariables false
/-- What a call holds. -/
structure Fcl where
  k : Int
  a : Int
  n : Int
  p : ByteArray
  o : ByteArray
  d : ByteArray
def fclZ : Fcl := ⟨0, 0, 0, ⟨#[]⟩, ⟨#[]⟩, ⟨#[]⟩⟩
/-- The cells of a call. -/
def fclV (x : Fcl) (i : Nat) : Value := if i = 0 then .int .i64 x.k else if i = 1 then .int .i64 x.a else if i = 2 then .int .i64 x.n else if i = 3 then .string x.p else if i = 4 then .string x.o else .string x.d
def fclA (x : Fcl) : Value := .agg #[.int .i64 x.k, .int .i64 x.a, .int .i64 x.n, .string x.p, .string x.o, .string x.d]
/-- A variable that holds a call. -/
def FclB (w : World) (p : Nat) (x : Fcl) : Prop := w.rowIs p 26 6 (fclV x)
theorem FclB.c {w : World} {p : Nat} {x : Fcl} (h : FclB w p x) : w.cell? ⟨p, 0, none⟩ = some (.int .i64 x.k) ∧ w.cell? ⟨p, 1, none⟩ = some (.int .i64 x.a) ∧ w.cell? ⟨p, 2, none⟩ = some (.int .i64 x.n) ∧ w.cell? ⟨p, 3, none⟩ = some (.string x.p) ∧ w.cell? ⟨p, 4, none⟩ = some (.string x.o) ∧ w.cell? ⟨p, 5, none⟩ = some (.string x.d) := ⟨World.rowIs.cell h (i := 0) (by omega), World.rowIs.cell h (i := 1) (by omega), World.rowIs.cell h (i := 2) (by omega), World.rowIs.cell h (i := 3) (by omega), World.rowIs.cell h (i := 4) (by omega), World.rowIs.cell h (i := 5) (by omega)⟩
theorem FclB.fr {w : World} {p : Nat} {x : Fcl} (h : FclB w p x) (i : Nat) : w.frozen? ⟨p, i, none⟩ = false := World.rowIs.frozen h i
theorem FclB.ofBlock {w w' : World} {p : Nat} {x : Fcl} (h : FclB w p x) (e : w'.heap[p]? = w.heap[p]?) : FclB w' p x := World.rowIs.of_block h e
theorem FclB.lt {w : World} {p : Nat} {x : Fcl} (h : FclB w p x) : p < w.heap.size := World.rowIs.lt h
theorem FclB.onlyB {w w' : World} {p g : Nat} {x : Fcl} (h : FclB w p x) (ho : OnlyB g w w') (hne : p ≠ g) : FclB w' p x := h.ofBlock (ho.block p h.lt hne)
theorem FclB.below {w w' : World} {p : Nat} {x : Fcl} (h : FclB w p x) (hb : Below w.heap.size w w') : FclB w' p x := h.ofBlock (hb.block p h.lt)
theorem FclB.madeOf {w : World} {p : Nat} {x : Fcl} (hp : w.heap.size = p) : FclB (w.alloc (.cells #[.int .i64 x.k, .int .i64 x.a, .int .i64 x.n, .string x.p, .string x.o, .string x.d] 26)) p x := by
  subst hp
  exact World.rowIs_alloc w _ _ _ (fun i hi => by
    rcases (show i = 0 ∨ i = 1 ∨ i = 2 ∨ i = 3 ∨ i = 4 ∨ i = 5 by simp at hi; omega) with rfl | rfl | rfl | rfl | rfl | rfl <;> rfl)
/-- The world behind a store of x. -/
def fclSt (w : World) (p : Nat) (x : Fcl) : World := (((((w.setCell ⟨p, 0, none⟩ (.int .i64 x.k)).setCell ⟨p, 1, none⟩ (.int .i64 x.a)).setCell ⟨p, 2, none⟩ (.int .i64 x.n)).setCell ⟨p, 3, none⟩ (.string x.p)).setCell ⟨p, 4, none⟩ (.string x.o)).setCell ⟨p, 5, none⟩ (.string x.d)
theorem fclSt_block {w : World} {p b : Nat} {x : Fcl} (h : b ≠ p) : (fclSt w p x).heap[b]? = w.heap[b]? := by
  unfold fclSt
  rw [Below.heap_setCell _ ⟨p, 5, none⟩ _ b h, Below.heap_setCell _ ⟨p, 4, none⟩ _ b h, Below.heap_setCell _ ⟨p, 3, none⟩ _ b h, Below.heap_setCell _ ⟨p, 2, none⟩ _ b h, Below.heap_setCell _ ⟨p, 1, none⟩ _ b h, Below.heap_setCell _ ⟨p, 0, none⟩ _ b h]
theorem FclB.st {w : World} {p : Nat} {y : Fcl} (h : FclB w p y) (x : Fcl) : FclB (fclSt w p x) p x := by
  refine World.rowIs.congr (World.rowIs.set (World.rowIs.set (World.rowIs.set (World.rowIs.set (World.rowIs.set (World.rowIs.set h 0 (.int .i64 x.k)) 1 (.int .i64 x.a)) 2 (.int .i64 x.n)) 3 (.string x.p)) 4 (.string x.o)) 5 (.string x.d)) (fun i hi => ?_)
  rcases (show i = 0 ∨ i = 1 ∨ i = 2 ∨ i = 3 ∨ i = 4 ∨ i = 5 by omega) with rfl | rfl | rfl | rfl | rfl | rfl <;> rfl
theorem OnlyB.setNewH {b p : Nat} {w w' : World} (h : OnlyB b w w') (hp : w.heap.size ≤ p) (i : Nat) (v : Value) : OnlyB b w (w'.setCell ⟨p, i, none⟩ v) := ⟨h.os, h.tape, h.output, by simpa using h.size, fun k hk hn => (Below.heap_setCell w' ⟨p, i, none⟩ v k (by dsimp only; omega)).trans (h.block k hk hn)⟩
theorem OnlyB.fclSt {b p : Nat} {w w' : World} (h : OnlyB b w w') (hp : w.heap.size ≤ p) (x : Fcl) : OnlyB b w (fclSt w' p x) := (((((h.setNewH hp 0 _).setNewH hp 1 _).setNewH hp 2 _).setNewH hp 3 _).setNewH hp 4 _).setNewH hp 5 _
theorem fclSt_below {B p : Nat} {w w' : World} (h : Below B w w') (hp : B ≤ p) (x : Fcl) : Below B w (fclSt w' p x) := (((((h.setCell hp _).setCell hp _).setCell hp _).setCell hp _).setCell hp _).setCell hp _
theorem FclB.load {w : World} {p : Nat} {x : Fcl} (h : FclB w p x) : (loadVar 26 ⟨p, 0, none⟩).run Tryz.prog w = .ok (.agg #[.int .i64 x.k, .int .i64 x.a, .int .i64 x.n, .string x.p, .string x.o, .string x.d]) w := by
  obtain ⟨h0, h1, h2, h3, h4, h5⟩ := h.c
  go_simp
theorem fieldFcl3 (k a n : Int) (p o d : ByteArray) (w : World) : (Instr.field 26 (.agg #[.int .i64 k, .int .i64 a, .int .i64 n, .string p, .string o, .string d]) 3).run Tryz.prog w = .ok (.string p) w := by kernel_rfl
/-- A path, or the top. -/
def PthE (s : ByteArray) : Prop := (PathOk s ∨ s.size = 0) ∧ s.size ≤ 9
/-- A drawn call. -/
def FclD (x : Fcl) : Prop := (1 ≤ x.k ∧ x.k ≤ 7) ∧ (0 ≤ x.a ∧ x.a ≤ 200) ∧ (0 ≤ x.n ∧ x.n ≤ 200) ∧ PthE x.p ∧ PthE x.o ∧ x.d.size ≤ 16
theorem pthE0 : PthE ⟨#[]⟩ := ⟨.inr rfl, by decide⟩
theorem pthF_9 (i : Nat) : (pthF i).size ≤ 9 := by unfold pthF; (repeat' split) <;> decide
theorem drsF_9 (i : Nat) : (drsF i).size ≤ 9 := by unfold drsF; (repeat' split) <;> decide
def lstF (i : Nat) : ByteArray := if i = 0 then ⟨#[]⟩ else if i = 1 then ⟨#[100, 105, 114]⟩ else ⟨#[97]⟩
def lstC : Array Value := #[.string ⟨#[]⟩, .string ⟨#[100, 105, 114]⟩, .string ⟨#[97]⟩]
theorem lstC_strs (w : World) : Strs (w.alloc (.cells lstC 9)) (some ⟨w.heap.size, 0, none⟩) 3 lstF := fun i hi => by
  refine ⟨w.heap.size, 0, rfl, ?_⟩
  rcases (show i = 0 ∨ i = 1 ∨ i = 2 by omega) with rfl | rfl | rfl <;> simp [lstC, lstF]
theorem lstF_ok (i : Nat) : PthE (lstF i) := by
  unfold lstF
  split
  · exact pthE0
  split
  · exact ⟨.inl (nm_path (by refine ⟨by decide, by decide, by decide, ?_⟩; decide)), by decide⟩
  · exact ⟨.inl (nm_path (by refine ⟨by decide, by decide, by decide, ?_⟩; decide)), by decide⟩

set_option maxRecDepth 100000 in
theorem path_9 (b : Nat) (a : Option Addr) (len cap A : Nat) (z : Nat → Nat) (hz : ∀ i, z i < 256) (hA : A ≤ 100000) (hl : len ≤ maxLen) (hsep : ∀ x, 0 < len → a = some x → x.block ≠ b) (w : World) (h : SrcA w b a len cap A) (hc : Code8 w a len z) :
    Calls Tryz.prog 40 #[.pointer (some ⟨b, 0, none⟩)] w fun e w' => (∃ s : ByteArray, PthE s ∧ e = .returned (.string s)) ∧ SrcA w' b a len cap (A + 1) ∧ OnlyB b w w' := by
  have hbl := h.lt
  have L : Below w.heap.size w (w.alloc (.cells pthC 9)) := (Below.refl _ _).alloc (Nat.le_refl _) _
  have PK : Hid (Calls Tryz.prog 42 #[.pointer (some ⟨b, 0, none⟩), .slice (some ⟨w.heap.size, 0, none⟩) 9 9] (w.alloc (.cells pthC 9)) fun e w' => (∃ r : Nat, r < 9 ∧ e = .returned (.string (pthF r))) ∧ SrcA w' b a len cap (A + 1) ∧ OnlyB b (w.alloc (.cells pthC 9)) w') := pick_n 9 (by omega) (by omega) pthF w.heap.size b a len cap A z hz hA hl hsep _ (h.below L) (hc.below L) (by omega) (pthC_strs w)
  have HL : Hid (OnlyB b w (w.alloc (.cells pthC 9))) := (OnlyB.refl b w).below L
  clear h hc hsep hz L
  unfold pthC at PK HL
  go_enter Tryz.func40, Tryz.ntmps40
  go_wp2_with fail
  refine PK.out.mono ?_
  rintro e w1 ⟨⟨r, hr, rfl⟩, hs1, ho1⟩
  have HS1 : Hid (SrcA w1 b a len cap (A + 1)) := hs1
  have HO1 : Hid (OnlyB b w w1) := HL.out.trans ho1
  have HD : Hid (PthE (pthF r)) := ⟨.inl (pthF_ok r), pthF_9 r⟩
  clear hs1 ho1 PK HL
  generalize pthF r = s at *
  go_wp2
  go_ret
  exact ⟨⟨s, HD.out, rfl⟩, HS1.out, HO1.out⟩
/-- The source, the two variables of fileCall and what is not theirs. -/
structure FcS (w0 u : World) (b : Nat) (a : Option Addr) (len cap A q : Nat) (z : Nat → Nat) (x : Fcl) : Prop where
  src : SrcA u b a len cap A
  cd : Code8 u a len z
  box : FclB u q x
  only : OnlyB b w0 u
  ge : w0.heap.size ≤ q
  ne : q ≠ b
theorem FcS.draw {w0 u u' : World} {b : Nat} {a : Option Addr} {len cap A A' q : Nat} {z : Nat → Nat} {x : Fcl} (hsep : ∀ x, 0 < len → a = some x → x.block ≠ b) (h : FcS w0 u b a len cap A q z x) (hs : SrcA u' b a len cap A') (ho : OnlyB b u u') : FcS w0 u' b a len cap A' q z x :=
  ⟨hs, h.cd.onlyB ho hsep, h.box.onlyB ho h.ne, h.only.trans ho, h.ge, h.ne⟩
theorem FcS.st {w0 u : World} {b : Nat} {a : Option Addr} {len cap A q : Nat} {z : Nat → Nat} {x : Fcl} (hlt : ∀ x, 0 < len → a = some x → x.block < w0.heap.size) (h : FcS w0 u b a len cap A q z x) (y : Fcl) : FcS w0 (fclSt u q y) b a len cap A q z y := by
  have hne := h.ne
  have hge := h.ge
  refine ⟨h.src.ofBlock (fclSt_block (Ne.symm hne)), fun i hi => ?_, h.box.st y, h.only.fclSt hge y, hge, hne⟩
  obtain ⟨g, o, e, c⟩ := h.cd i hi
  refine ⟨g, o, e, ?_⟩
  have h1 : g < w0.heap.size := hlt ⟨g, o, none⟩ (by omega) e
  have h2 : (fclSt u q y).heap[g]? = u.heap[g]? := fclSt_block (by omega)
  generalize fclSt u q y = u2 at h2
  exact (World.cell?_of_block (w := u) (w' := u2) (a := ⟨g, o + i, none⟩) h2).trans c

set_option maxRecDepth 100000 in
set_option maxHeartbeats 4000000 in
theorem fileCall_ex (b : Nat) (a : Option Addr) (len cap A : Nat) (z : Nat → Nat) (hz : ∀ i, z i < 256) (hA : A ≤ 90000) (hl : len ≤ maxLen) (hsep : ∀ x, 0 < len → a = some x → x.block ≠ b) (w : World) (h : SrcA w b a len cap A) (hc : Code8 w a len z) :
    Calls Tryz.prog 21 #[.pointer (some ⟨b, 0, none⟩)] w fun e w' => (∃ x : Fcl, e = .returned (.agg #[.int .i64 x.k, .int .i64 x.a, .int .i64 x.n, .string x.p, .string x.o, .string x.d]) ∧ FclD x) ∧ SrcA w' b a len cap (A + 10) ∧ OnlyB b w w' := by
  have hbl := h.lt
  have hcl : ∀ x, 0 < len → a = some x → x.block < w.heap.size := fun x h0 e => hc.lt x h0 e
  have NX : Hid (∀ (n : Nat) (A : Nat) (u : World), A ≤ 100000 → SrcA u b a len cap A → Code8 u a len z → 2 ≤ n → n ≤ 9 → Calls Tryz.prog 38 #[.pointer (some ⟨b, 0, none⟩), .int .i64 (n : Int)] u fun e w' => (∃ r : Nat, r < n ∧ e = .returned (.int .i64 (r : Int))) ∧ SrcA w' b a len cap (A + 1) ∧ OnlyB b u w') := fun n A u h1 h2 h3 h4 h5 => next_ex n h4 (by omega) b a len cap A z hz h1 hl hsep u h2 h3
  have PA : Hid (∀ (A : Nat) (u : World), A ≤ 100000 → SrcA u b a len cap A → Code8 u a len z → Calls Tryz.prog 40 #[.pointer (some ⟨b, 0, none⟩)] u fun e w' => (∃ s : ByteArray, PthE s ∧ e = .returned (.string s)) ∧ SrcA w' b a len cap (A + 1) ∧ OnlyB b u w') := fun A u h1 h2 h3 => path_9 b a len cap A z hz h1 hl hsep u h2 h3
  have DT : Hid (∀ (A : Nat) (u : World), A ≤ 100000 → SrcA u b a len cap A → Code8 u a len z → Calls Tryz.prog 47 #[.pointer (some ⟨b, 0, none⟩)] u fun e w' => (∃ s : ByteArray, s.size ≤ 16 ∧ e = .returned (.string s)) ∧ SrcA w' b a len cap (A + 1) ∧ OnlyB b u w') := fun A u h1 h2 h3 => datum_f b a len cap A z hz h1 hl hsep u h2 h3
  have PK : Hid (∀ (A : Nat) (u : World), A ≤ 100000 → SrcA u b a len cap A → Code8 u a len z → Calls Tryz.prog 42 #[.pointer (some ⟨b, 0, none⟩), .slice (some ⟨u.heap.size, 0, none⟩) 3 3] (u.alloc (.cells drsC 9)) fun e w' => (∃ s : ByteArray, PthE s ∧ e = .returned (.string s)) ∧ SrcA w' b a len cap (A + 1) ∧ OnlyB b u w') := fun A u h1 h2 h3 => by
    have hbl := h2.lt
    have LB : Below u.heap.size u (u.alloc (.cells drsC 9)) := (Below.refl _ _).alloc (Nat.le_refl _) _
    refine (pick_n 3 (by omega) (by omega) drsF u.heap.size b a len cap A z hz h1 hl hsep _ (h2.below LB) (h3.below LB) (by omega) (drsC_strs u)).mono ?_
    rintro e w' ⟨⟨r, _, rfl⟩, hs, ho⟩
    exact ⟨⟨_, ⟨.inl (drsF_ok r), drsF_9 r⟩, rfl⟩, hs, ((OnlyB.refl b u).below LB).trans ho⟩
  unfold drsC at PK
  have PL : Hid (∀ (A : Nat) (u : World), A ≤ 100000 → SrcA u b a len cap A → Code8 u a len z → Calls Tryz.prog 42 #[.pointer (some ⟨b, 0, none⟩), .slice (some ⟨u.heap.size, 0, none⟩) 3 3] (u.alloc (.cells lstC 9)) fun e w' => (∃ s : ByteArray, PthE s ∧ e = .returned (.string s)) ∧ SrcA w' b a len cap (A + 1) ∧ OnlyB b u w') := fun A u h1 h2 h3 => by
    have hbl := h2.lt
    have LB : Below u.heap.size u (u.alloc (.cells lstC 9)) := (Below.refl _ _).alloc (Nat.le_refl _) _
    refine (pick_n 3 (by omega) (by omega) lstF u.heap.size b a len cap A z hz h1 hl hsep _ (h2.below LB) (h3.below LB) (by omega) (lstC_strs u)).mono ?_
    rintro e w' ⟨⟨r, _, rfl⟩, hs, ho⟩
    exact ⟨⟨_, lstF_ok r, rfl⟩, hs, ((OnlyB.refl b u).below LB).trans ho⟩
  unfold lstC at PL
  have W1 : Below w.heap.size w (w.alloc (.cells #[.int .i64 0, .int .i64 0, .int .i64 0, .string ⟨#[]⟩, .string ⟨#[]⟩, .string ⟨#[]⟩] 26)) := (Below.refl _ _).alloc (Nat.le_refl _) _
  have R0 : Hid (FcS w (w.alloc (.cells #[.int .i64 0, .int .i64 0, .int .i64 0, .string ⟨#[]⟩, .string ⟨#[]⟩, .string ⟨#[]⟩] 26)) b a len cap A w.heap.size z fclZ) := ⟨h.below W1, hc.below W1, FclB.madeOf (x := fclZ) rfl, (OnlyB.refl _ _).below W1, Nat.le_refl _, by omega⟩
  have HSEP : Hid (∀ x, 0 < len → a = some x → x.block ≠ b) := hsep
  have HCL : Hid (∀ x, 0 < len → a = some x → x.block < w.heap.size) := hcl
  have HA : Hid (A ≤ 90000) := hA
  clear h hc W1 hbl hsep hcl hA hz hl
  go_enter Tryz.func21, Tryz.ntmps21
  go_wp2_with fail
  generalize (w.alloc (.cells #[.int .i64 0, .int .i64 0, .int .i64 0, .string ⟨#[]⟩, .string ⟨#[]⟩, .string ⟨#[]⟩] 26)) = v0 at *
  obtain ⟨q0, hq0⟩ : ∃ x, x = w.heap.size := ⟨_, rfl⟩
  rw [← hq0] at R0 ⊢
  clear hq0
  refine (PA.out A v0 (by have := HA.out; omega) R0.out.src R0.out.cd).mono ?_
  rintro e u1 ⟨⟨p0, hp0, rfl⟩, hs, ho⟩
  replace R0 : Hid (FcS w u1 b a len cap (A + 1) q0 z fclZ) := R0.out.draw HSEP.out hs ho
  have HP0 : Hid (PthE p0) := hp0
  clear hs ho
  clear hp0
  go_wp2_with fail
  refine (NX.out 6 (A + 1) u1 (by have := HA.out; omega) R0.out.src R0.out.cd (by omega) (by omega)).mono ?_
  rintro e u2 ⟨⟨a0, ha0, rfl⟩, hs, ho⟩
  replace R0 : Hid (FcS w u2 b a len cap (A + 1 + 1) q0 z fclZ) := R0.out.draw HSEP.out hs ho
  have HA0 : Hid (a0 < 6) := ha0
  clear hs ho
  clear ha0
  go_wp2_with fail
  refine (DT.out (A + 1 + 1) u2 (by have := HA.out; omega) R0.out.src R0.out.cd).mono ?_
  rintro e u3 ⟨⟨d0, hd0, rfl⟩, hs, ho⟩
  replace R0 : Hid (FcS w u3 b a len cap (A + 1 + 1 + 1) q0 z fclZ) := R0.out.draw HSEP.out hs ho
  have HD0 : Hid (d0.size ≤ 16) := hd0
  clear hs ho
  clear hd0
  have BX : Below u3.heap.size u3 (u3.alloc (.cells #[.int .i64 2, .int .i64 (a0 : Int), .int .i64 0, .string p0, .string ⟨#[]⟩, .string d0] 26)) := (Below.refl _ _).alloc (Nat.le_refl _) _
  have X1 : Hid (FcS w (u3.alloc (.cells #[.int .i64 2, .int .i64 (a0 : Int), .int .i64 0, .string p0, .string ⟨#[]⟩, .string d0] 26)) b a len cap (A + 1 + 1 + 1) u3.heap.size z ⟨2, (a0 : Int), 0, p0, ⟨#[]⟩, d0⟩) := ⟨R0.out.src.below BX, R0.out.cd.below BX, FclB.madeOf (x := ⟨2, (a0 : Int), 0, p0, ⟨#[]⟩, d0⟩) rfl, R0.out.only.below BX, R0.out.only.size, by have := R0.out.src.lt; omega⟩
  have HNE : Hid (u3.heap.size ≠ q0) := by have := R0.out.box.lt; show _ ≠ _; omega
  replace R0 : Hid (FcS w (u3.alloc (.cells #[.int .i64 2, .int .i64 (a0 : Int), .int .i64 0, .string p0, .string ⟨#[]⟩, .string d0] 26)) b a len cap (A + 1 + 1 + 1) q0 z fclZ) := ⟨R0.out.src.below BX, R0.out.cd.below BX, R0.out.box.below BX, R0.out.only.below BX, R0.out.ge, R0.out.ne⟩
  have HX1 : Hid (FclD ⟨2, (a0 : Int), 0, p0, ⟨#[]⟩, d0⟩) := ⟨⟨by dsimp only; omega, by dsimp only; omega⟩, ⟨by dsimp only; omega, by have := HA0.out; dsimp only; omega⟩, ⟨by dsimp only; omega, by dsimp only; omega⟩, HP0.out, pthE0, HD0.out⟩
  clear BX HP0 HA0 HD0
  go_wp2_with fail
  generalize (u3.alloc (.cells #[.int .i64 2, .int .i64 (a0 : Int), .int .i64 0, .string p0, .string ⟨#[]⟩, .string d0] 26)) = v1 at *
  obtain ⟨q1, hq1⟩ : ∃ x, x = u3.heap.size := ⟨_, rfl⟩
  rw [← hq1] at X1 HNE ⊢
  clear hq1
  generalize hy0 : (⟨2, (a0 : Int), 0, p0, ⟨#[]⟩, d0⟩ : Fcl) = y0 at *
  clear hy0
  refine (NX.out 9 (A + 1 + 1 + 1) v1 (by have := HA.out; omega) R0.out.src R0.out.cd (by omega) (by omega)).mono ?_
  rintro e u4 ⟨⟨k, hk, rfl⟩, hs, ho⟩
  replace R0 : Hid (FcS w u4 b a len cap (A + 1 + 1 + 1 + 1) q0 z fclZ) := R0.out.draw HSEP.out hs ho
  replace X1 : Hid (FcS w u4 b a len cap (A + 1 + 1 + 1 + 1) q1 z y0) := X1.out.draw HSEP.out hs ho
  clear hs ho
  obtain ⟨K, hK⟩ : ∃ K : Int, K = (k : Int) := ⟨_, rfl⟩
  rw [← hK]
  have HK : K = 0 ∨ K = 1 ∨ K = 2 ∨ K = 3 ∨ K = 4 ∨ K = 5 ∨ K = 6 ∨ K = 7 ∨ K = 8 := by omega
  clear hK hk k
  rcases HK with rfl | rfl | rfl | rfl | rfl | rfl | rfl | rfl | rfl
  · go_wp2_with fail
    refine (PK.out (A + 1 + 1 + 1 + 1) u4 (by have := HA.out; omega) R0.out.src R0.out.cd).mono ?_
    rintro e u5 ⟨⟨p1, hp1, rfl⟩, hs, ho⟩
    replace R0 : Hid (FcS w u5 b a len cap (A + 1 + 1 + 1 + 1 + 1) q0 z fclZ) := R0.out.draw HSEP.out hs ho
    replace X1 : Hid (FcS w u5 b a len cap (A + 1 + 1 + 1 + 1 + 1) q1 z y0) := X1.out.draw HSEP.out hs ho
    have HP1 : Hid (PthE p1) := hp1
    clear hs ho
    clear hp1
    have X2 : Hid (FcS w (fclSt u5 q1 ⟨1, 0, 0, p1, ⟨#[]⟩, ⟨#[]⟩⟩) b a len cap (A + 1 + 1 + 1 + 1 + 1) q1 z ⟨1, 0, 0, p1, ⟨#[]⟩, ⟨#[]⟩⟩) := X1.out.st HCL.out ⟨1, 0, 0, p1, ⟨#[]⟩, ⟨#[]⟩⟩
    have R2 : Hid (FcS w (fclSt u5 q1 ⟨1, 0, 0, p1, ⟨#[]⟩, ⟨#[]⟩⟩) b a len cap (A + 1 + 1 + 1 + 1 + 1) q0 z fclZ) := ⟨X2.out.src, X2.out.cd, R0.out.box.ofBlock (fclSt_block (Ne.symm HNE.out)), X2.out.only, R0.out.ge, R0.out.ne⟩
    have HY : Hid (FclD ⟨1, 0, 0, p1, ⟨#[]⟩, ⟨#[]⟩⟩) := ⟨⟨by dsimp only; omega, by dsimp only; omega⟩, ⟨by dsimp only; omega, by dsimp only; omega⟩, ⟨by dsimp only; omega, by dsimp only; omega⟩, HP1.out, pthE0, by show (0 : Nat) ≤ 16; omega⟩
    obtain ⟨k0, k1, k2, k3, k4, k5⟩ := X1.out.box.c
    have f0 := X1.out.box.fr 0
    have f1 := X1.out.box.fr 1
    have f2 := X1.out.box.fr 2
    have f3 := X1.out.box.fr 3
    have f4 := X1.out.box.fr 4
    have f5 := X1.out.box.fr 5
    clear X1 R0
    go_upto_region 16 with fail
    clear k0 k1 k2 k3 k4 k5 f0 f1 f2 f3 f4 f5
    change Code.wp _ _ _ _ (fclSt u5 q1 ⟨1, 0, 0, p1, ⟨#[]⟩, ⟨#[]⟩⟩)
    generalize (fclSt u5 q1 ⟨1, 0, 0, p1, ⟨#[]⟩, ⟨#[]⟩⟩) = v2 at X2 R2 ⊢
    generalize (⟨1, 0, 0, p1, ⟨#[]⟩, ⟨#[]⟩⟩ : Fcl) = y at X2 HY
    have X3 : Hid (FclB (fclSt v2 q0 y) q0 y) := R2.out.box.st y
    have QS : Hid (SrcA (fclSt v2 q0 y) b a len cap (A + 10)) := (R2.out.src.ofBlock (fclSt_block (Ne.symm R2.out.ne))).mono (by omega)
    have QO : Hid (OnlyB b w (fclSt v2 q0 y)) := R2.out.only.fclSt R2.out.ge y
    obtain ⟨k0, k1, k2, k3, k4, k5⟩ := X2.out.box.c
    obtain ⟨r0, r1, r2, r3, r4, r5⟩ := R2.out.box.c
    have f0 := R2.out.box.fr 0
    have f1 := R2.out.box.fr 1
    have f2 := R2.out.box.fr 2
    have f3 := R2.out.box.fr 3
    have f4 := R2.out.box.fr 4
    have f5 := R2.out.box.fr 5
    clear X2 R2
    go_wp2
    exact ret_cell (b := q0) (v := .agg #[.int .i64 y.k, .int .i64 y.a, .int .i64 y.n, .string y.p, .string y.o, .string y.d]) Tryz.results21 rfl X3.out.load ⟨⟨y, rfl, HY.out⟩, QS.out, QO.out⟩
  · go_wp2_with fail
    refine (PK.out (A + 1 + 1 + 1 + 1) u4 (by have := HA.out; omega) R0.out.src R0.out.cd).mono ?_
    rintro e u5 ⟨⟨p1, hp1, rfl⟩, hs, ho⟩
    replace R0 : Hid (FcS w u5 b a len cap (A + 1 + 1 + 1 + 1 + 1) q0 z fclZ) := R0.out.draw HSEP.out hs ho
    replace X1 : Hid (FcS w u5 b a len cap (A + 1 + 1 + 1 + 1 + 1) q1 z y0) := X1.out.draw HSEP.out hs ho
    have HP1 : Hid (PthE p1) := hp1
    clear hs ho
    clear hp1
    have X2 : Hid (FcS w (fclSt u5 q1 ⟨1, 0, 0, p1, ⟨#[]⟩, ⟨#[]⟩⟩) b a len cap (A + 1 + 1 + 1 + 1 + 1) q1 z ⟨1, 0, 0, p1, ⟨#[]⟩, ⟨#[]⟩⟩) := X1.out.st HCL.out ⟨1, 0, 0, p1, ⟨#[]⟩, ⟨#[]⟩⟩
    have R2 : Hid (FcS w (fclSt u5 q1 ⟨1, 0, 0, p1, ⟨#[]⟩, ⟨#[]⟩⟩) b a len cap (A + 1 + 1 + 1 + 1 + 1) q0 z fclZ) := ⟨X2.out.src, X2.out.cd, R0.out.box.ofBlock (fclSt_block (Ne.symm HNE.out)), X2.out.only, R0.out.ge, R0.out.ne⟩
    have HY : Hid (FclD ⟨1, 0, 0, p1, ⟨#[]⟩, ⟨#[]⟩⟩) := ⟨⟨by dsimp only; omega, by dsimp only; omega⟩, ⟨by dsimp only; omega, by dsimp only; omega⟩, ⟨by dsimp only; omega, by dsimp only; omega⟩, HP1.out, pthE0, by show (0 : Nat) ≤ 16; omega⟩
    obtain ⟨k0, k1, k2, k3, k4, k5⟩ := X1.out.box.c
    have f0 := X1.out.box.fr 0
    have f1 := X1.out.box.fr 1
    have f2 := X1.out.box.fr 2
    have f3 := X1.out.box.fr 3
    have f4 := X1.out.box.fr 4
    have f5 := X1.out.box.fr 5
    clear X1 R0
    go_upto_region 16 with fail
    clear k0 k1 k2 k3 k4 k5 f0 f1 f2 f3 f4 f5
    change Code.wp _ _ _ _ (fclSt u5 q1 ⟨1, 0, 0, p1, ⟨#[]⟩, ⟨#[]⟩⟩)
    generalize (fclSt u5 q1 ⟨1, 0, 0, p1, ⟨#[]⟩, ⟨#[]⟩⟩) = v2 at X2 R2 ⊢
    generalize (⟨1, 0, 0, p1, ⟨#[]⟩, ⟨#[]⟩⟩ : Fcl) = y at X2 HY
    have X3 : Hid (FclB (fclSt v2 q0 y) q0 y) := R2.out.box.st y
    have QS : Hid (SrcA (fclSt v2 q0 y) b a len cap (A + 10)) := (R2.out.src.ofBlock (fclSt_block (Ne.symm R2.out.ne))).mono (by omega)
    have QO : Hid (OnlyB b w (fclSt v2 q0 y)) := R2.out.only.fclSt R2.out.ge y
    obtain ⟨k0, k1, k2, k3, k4, k5⟩ := X2.out.box.c
    obtain ⟨r0, r1, r2, r3, r4, r5⟩ := R2.out.box.c
    have f0 := R2.out.box.fr 0
    have f1 := R2.out.box.fr 1
    have f2 := R2.out.box.fr 2
    have f3 := R2.out.box.fr 3
    have f4 := R2.out.box.fr 4
    have f5 := R2.out.box.fr 5
    clear X2 R2
    go_wp2
    exact ret_cell (b := q0) (v := .agg #[.int .i64 y.k, .int .i64 y.a, .int .i64 y.n, .string y.p, .string y.o, .string y.d]) Tryz.results21 rfl X3.out.load ⟨⟨y, rfl, HY.out⟩, QS.out, QO.out⟩
  · go_wp2_with fail
    refine (PA.out (A + 1 + 1 + 1 + 1) u4 (by have := HA.out; omega) R0.out.src R0.out.cd).mono ?_
    rintro e u5 ⟨⟨p1, hp1, rfl⟩, hs, ho⟩
    replace R0 : Hid (FcS w u5 b a len cap (A + 1 + 1 + 1 + 1 + 1) q0 z fclZ) := R0.out.draw HSEP.out hs ho
    replace X1 : Hid (FcS w u5 b a len cap (A + 1 + 1 + 1 + 1 + 1) q1 z y0) := X1.out.draw HSEP.out hs ho
    have HP1 : Hid (PthE p1) := hp1
    clear hs ho
    clear hp1
    have X2 : Hid (FcS w (fclSt u5 q1 ⟨3, 0, 200, p1, ⟨#[]⟩, ⟨#[]⟩⟩) b a len cap (A + 1 + 1 + 1 + 1 + 1) q1 z ⟨3, 0, 200, p1, ⟨#[]⟩, ⟨#[]⟩⟩) := X1.out.st HCL.out ⟨3, 0, 200, p1, ⟨#[]⟩, ⟨#[]⟩⟩
    have R2 : Hid (FcS w (fclSt u5 q1 ⟨3, 0, 200, p1, ⟨#[]⟩, ⟨#[]⟩⟩) b a len cap (A + 1 + 1 + 1 + 1 + 1) q0 z fclZ) := ⟨X2.out.src, X2.out.cd, R0.out.box.ofBlock (fclSt_block (Ne.symm HNE.out)), X2.out.only, R0.out.ge, R0.out.ne⟩
    have HY : Hid (FclD ⟨3, 0, 200, p1, ⟨#[]⟩, ⟨#[]⟩⟩) := ⟨⟨by dsimp only; omega, by dsimp only; omega⟩, ⟨by dsimp only; omega, by dsimp only; omega⟩, ⟨by dsimp only; omega, by dsimp only; omega⟩, HP1.out, pthE0, by show (0 : Nat) ≤ 16; omega⟩
    obtain ⟨k0, k1, k2, k3, k4, k5⟩ := X1.out.box.c
    have f0 := X1.out.box.fr 0
    have f1 := X1.out.box.fr 1
    have f2 := X1.out.box.fr 2
    have f3 := X1.out.box.fr 3
    have f4 := X1.out.box.fr 4
    have f5 := X1.out.box.fr 5
    clear X1 R0
    go_upto_region 16 with fail
    clear k0 k1 k2 k3 k4 k5 f0 f1 f2 f3 f4 f5
    change Code.wp _ _ _ _ (fclSt u5 q1 ⟨3, 0, 200, p1, ⟨#[]⟩, ⟨#[]⟩⟩)
    generalize (fclSt u5 q1 ⟨3, 0, 200, p1, ⟨#[]⟩, ⟨#[]⟩⟩) = v2 at X2 R2 ⊢
    generalize (⟨3, 0, 200, p1, ⟨#[]⟩, ⟨#[]⟩⟩ : Fcl) = y at X2 HY
    have X3 : Hid (FclB (fclSt v2 q0 y) q0 y) := R2.out.box.st y
    have QS : Hid (SrcA (fclSt v2 q0 y) b a len cap (A + 10)) := (R2.out.src.ofBlock (fclSt_block (Ne.symm R2.out.ne))).mono (by omega)
    have QO : Hid (OnlyB b w (fclSt v2 q0 y)) := R2.out.only.fclSt R2.out.ge y
    obtain ⟨k0, k1, k2, k3, k4, k5⟩ := X2.out.box.c
    obtain ⟨r0, r1, r2, r3, r4, r5⟩ := R2.out.box.c
    have f0 := R2.out.box.fr 0
    have f1 := R2.out.box.fr 1
    have f2 := R2.out.box.fr 2
    have f3 := R2.out.box.fr 3
    have f4 := R2.out.box.fr 4
    have f5 := R2.out.box.fr 5
    clear X2 R2
    go_wp2
    exact ret_cell (b := q0) (v := .agg #[.int .i64 y.k, .int .i64 y.a, .int .i64 y.n, .string y.p, .string y.o, .string y.d]) Tryz.results21 rfl X3.out.load ⟨⟨y, rfl, HY.out⟩, QS.out, QO.out⟩
  · go_wp2_with fail
    refine (PA.out (A + 1 + 1 + 1 + 1) u4 (by have := HA.out; omega) R0.out.src R0.out.cd).mono ?_
    rintro e u5 ⟨⟨p1, hp1, rfl⟩, hs, ho⟩
    replace R0 : Hid (FcS w u5 b a len cap (A + 1 + 1 + 1 + 1 + 1) q0 z fclZ) := R0.out.draw HSEP.out hs ho
    replace X1 : Hid (FcS w u5 b a len cap (A + 1 + 1 + 1 + 1 + 1) q1 z y0) := X1.out.draw HSEP.out hs ho
    have HP1 : Hid (PthE p1) := hp1
    clear hs ho
    clear hp1
    go_wp2_with fail
    refine (NX.out 9 (A + 1 + 1 + 1 + 1 + 1) u5 (by have := HA.out; omega) R0.out.src R0.out.cd (by omega) (by omega)).mono ?_
    rintro e u6 ⟨⟨n1, hn1, rfl⟩, hs, ho⟩
    replace R0 : Hid (FcS w u6 b a len cap (A + 1 + 1 + 1 + 1 + 1 + 1) q0 z fclZ) := R0.out.draw HSEP.out hs ho
    replace X1 : Hid (FcS w u6 b a len cap (A + 1 + 1 + 1 + 1 + 1 + 1) q1 z y0) := X1.out.draw HSEP.out hs ho
    have HN1 : Hid (n1 < 9) := hn1
    clear hs ho
    clear hn1
    have X2 : Hid (FcS w (fclSt u6 q1 ⟨4, 0, (n1 : Int), p1, ⟨#[]⟩, ⟨#[]⟩⟩) b a len cap (A + 1 + 1 + 1 + 1 + 1 + 1) q1 z ⟨4, 0, (n1 : Int), p1, ⟨#[]⟩, ⟨#[]⟩⟩) := X1.out.st HCL.out ⟨4, 0, (n1 : Int), p1, ⟨#[]⟩, ⟨#[]⟩⟩
    have R2 : Hid (FcS w (fclSt u6 q1 ⟨4, 0, (n1 : Int), p1, ⟨#[]⟩, ⟨#[]⟩⟩) b a len cap (A + 1 + 1 + 1 + 1 + 1 + 1) q0 z fclZ) := ⟨X2.out.src, X2.out.cd, R0.out.box.ofBlock (fclSt_block (Ne.symm HNE.out)), X2.out.only, R0.out.ge, R0.out.ne⟩
    have HY : Hid (FclD ⟨4, 0, (n1 : Int), p1, ⟨#[]⟩, ⟨#[]⟩⟩) := ⟨⟨by dsimp only; omega, by dsimp only; omega⟩, ⟨by dsimp only; omega, by dsimp only; omega⟩, ⟨by have := HN1.out; dsimp only; omega, by have := HN1.out; dsimp only; omega⟩, HP1.out, pthE0, by show (0 : Nat) ≤ 16; omega⟩
    obtain ⟨k0, k1, k2, k3, k4, k5⟩ := X1.out.box.c
    have f0 := X1.out.box.fr 0
    have f1 := X1.out.box.fr 1
    have f2 := X1.out.box.fr 2
    have f3 := X1.out.box.fr 3
    have f4 := X1.out.box.fr 4
    have f5 := X1.out.box.fr 5
    clear X1 R0
    go_upto_region 16 with fail
    clear k0 k1 k2 k3 k4 k5 f0 f1 f2 f3 f4 f5
    change Code.wp _ _ _ _ (fclSt u6 q1 ⟨4, 0, (n1 : Int), p1, ⟨#[]⟩, ⟨#[]⟩⟩)
    generalize (fclSt u6 q1 ⟨4, 0, (n1 : Int), p1, ⟨#[]⟩, ⟨#[]⟩⟩) = v2 at X2 R2 ⊢
    generalize (⟨4, 0, (n1 : Int), p1, ⟨#[]⟩, ⟨#[]⟩⟩ : Fcl) = y at X2 HY
    have X3 : Hid (FclB (fclSt v2 q0 y) q0 y) := R2.out.box.st y
    have QS : Hid (SrcA (fclSt v2 q0 y) b a len cap (A + 10)) := (R2.out.src.ofBlock (fclSt_block (Ne.symm R2.out.ne))).mono (by omega)
    have QO : Hid (OnlyB b w (fclSt v2 q0 y)) := R2.out.only.fclSt R2.out.ge y
    obtain ⟨k0, k1, k2, k3, k4, k5⟩ := X2.out.box.c
    obtain ⟨r0, r1, r2, r3, r4, r5⟩ := R2.out.box.c
    have f0 := R2.out.box.fr 0
    have f1 := R2.out.box.fr 1
    have f2 := R2.out.box.fr 2
    have f3 := R2.out.box.fr 3
    have f4 := R2.out.box.fr 4
    have f5 := R2.out.box.fr 5
    clear X2 R2
    go_wp2
    exact ret_cell (b := q0) (v := .agg #[.int .i64 y.k, .int .i64 y.a, .int .i64 y.n, .string y.p, .string y.o, .string y.d]) Tryz.results21 rfl X3.out.load ⟨⟨y, rfl, HY.out⟩, QS.out, QO.out⟩
  · go_wp2_with fail
    refine (PA.out (A + 1 + 1 + 1 + 1) u4 (by have := HA.out; omega) R0.out.src R0.out.cd).mono ?_
    rintro e u5 ⟨⟨p1, hp1, rfl⟩, hs, ho⟩
    replace R0 : Hid (FcS w u5 b a len cap (A + 1 + 1 + 1 + 1 + 1) q0 z fclZ) := R0.out.draw HSEP.out hs ho
    replace X1 : Hid (FcS w u5 b a len cap (A + 1 + 1 + 1 + 1 + 1) q1 z y0) := X1.out.draw HSEP.out hs ho
    have HP1 : Hid (PthE p1) := hp1
    clear hs ho
    clear hp1
    go_wp2_with fail
    refine (PA.out (A + 1 + 1 + 1 + 1 + 1) u5 (by have := HA.out; omega) R0.out.src R0.out.cd).mono ?_
    rintro e u6 ⟨⟨p2, hp2, rfl⟩, hs, ho⟩
    replace R0 : Hid (FcS w u6 b a len cap (A + 1 + 1 + 1 + 1 + 1 + 1) q0 z fclZ) := R0.out.draw HSEP.out hs ho
    replace X1 : Hid (FcS w u6 b a len cap (A + 1 + 1 + 1 + 1 + 1 + 1) q1 z y0) := X1.out.draw HSEP.out hs ho
    have HP2 : Hid (PthE p2) := hp2
    clear hs ho
    clear hp2
    have X2 : Hid (FcS w (fclSt u6 q1 ⟨5, 0, 0, p1, p2, ⟨#[]⟩⟩) b a len cap (A + 1 + 1 + 1 + 1 + 1 + 1) q1 z ⟨5, 0, 0, p1, p2, ⟨#[]⟩⟩) := X1.out.st HCL.out ⟨5, 0, 0, p1, p2, ⟨#[]⟩⟩
    have R2 : Hid (FcS w (fclSt u6 q1 ⟨5, 0, 0, p1, p2, ⟨#[]⟩⟩) b a len cap (A + 1 + 1 + 1 + 1 + 1 + 1) q0 z fclZ) := ⟨X2.out.src, X2.out.cd, R0.out.box.ofBlock (fclSt_block (Ne.symm HNE.out)), X2.out.only, R0.out.ge, R0.out.ne⟩
    have HY : Hid (FclD ⟨5, 0, 0, p1, p2, ⟨#[]⟩⟩) := ⟨⟨by dsimp only; omega, by dsimp only; omega⟩, ⟨by dsimp only; omega, by dsimp only; omega⟩, ⟨by dsimp only; omega, by dsimp only; omega⟩, HP1.out, HP2.out, by show (0 : Nat) ≤ 16; omega⟩
    obtain ⟨k0, k1, k2, k3, k4, k5⟩ := X1.out.box.c
    have f0 := X1.out.box.fr 0
    have f1 := X1.out.box.fr 1
    have f2 := X1.out.box.fr 2
    have f3 := X1.out.box.fr 3
    have f4 := X1.out.box.fr 4
    have f5 := X1.out.box.fr 5
    clear X1 R0
    go_upto_region 16 with fail
    clear k0 k1 k2 k3 k4 k5 f0 f1 f2 f3 f4 f5
    change Code.wp _ _ _ _ (fclSt u6 q1 ⟨5, 0, 0, p1, p2, ⟨#[]⟩⟩)
    generalize (fclSt u6 q1 ⟨5, 0, 0, p1, p2, ⟨#[]⟩⟩) = v2 at X2 R2 ⊢
    generalize (⟨5, 0, 0, p1, p2, ⟨#[]⟩⟩ : Fcl) = y at X2 HY
    have X3 : Hid (FclB (fclSt v2 q0 y) q0 y) := R2.out.box.st y
    have QS : Hid (SrcA (fclSt v2 q0 y) b a len cap (A + 10)) := (R2.out.src.ofBlock (fclSt_block (Ne.symm R2.out.ne))).mono (by omega)
    have QO : Hid (OnlyB b w (fclSt v2 q0 y)) := R2.out.only.fclSt R2.out.ge y
    obtain ⟨k0, k1, k2, k3, k4, k5⟩ := X2.out.box.c
    obtain ⟨r0, r1, r2, r3, r4, r5⟩ := R2.out.box.c
    have f0 := R2.out.box.fr 0
    have f1 := R2.out.box.fr 1
    have f2 := R2.out.box.fr 2
    have f3 := R2.out.box.fr 3
    have f4 := R2.out.box.fr 4
    have f5 := R2.out.box.fr 5
    clear X2 R2
    go_wp2
    exact ret_cell (b := q0) (v := .agg #[.int .i64 y.k, .int .i64 y.a, .int .i64 y.n, .string y.p, .string y.o, .string y.d]) Tryz.results21 rfl X3.out.load ⟨⟨y, rfl, HY.out⟩, QS.out, QO.out⟩
  · go_wp2_with fail
    refine (PA.out (A + 1 + 1 + 1 + 1) u4 (by have := HA.out; omega) R0.out.src R0.out.cd).mono ?_
    rintro e u5 ⟨⟨p1, hp1, rfl⟩, hs, ho⟩
    replace R0 : Hid (FcS w u5 b a len cap (A + 1 + 1 + 1 + 1 + 1) q0 z fclZ) := R0.out.draw HSEP.out hs ho
    replace X1 : Hid (FcS w u5 b a len cap (A + 1 + 1 + 1 + 1 + 1) q1 z y0) := X1.out.draw HSEP.out hs ho
    have HP1 : Hid (PthE p1) := hp1
    clear hs ho
    clear hp1
    have X2 : Hid (FcS w (fclSt u5 q1 ⟨6, 0, 0, p1, ⟨#[]⟩, ⟨#[]⟩⟩) b a len cap (A + 1 + 1 + 1 + 1 + 1) q1 z ⟨6, 0, 0, p1, ⟨#[]⟩, ⟨#[]⟩⟩) := X1.out.st HCL.out ⟨6, 0, 0, p1, ⟨#[]⟩, ⟨#[]⟩⟩
    have R2 : Hid (FcS w (fclSt u5 q1 ⟨6, 0, 0, p1, ⟨#[]⟩, ⟨#[]⟩⟩) b a len cap (A + 1 + 1 + 1 + 1 + 1) q0 z fclZ) := ⟨X2.out.src, X2.out.cd, R0.out.box.ofBlock (fclSt_block (Ne.symm HNE.out)), X2.out.only, R0.out.ge, R0.out.ne⟩
    have HY : Hid (FclD ⟨6, 0, 0, p1, ⟨#[]⟩, ⟨#[]⟩⟩) := ⟨⟨by dsimp only; omega, by dsimp only; omega⟩, ⟨by dsimp only; omega, by dsimp only; omega⟩, ⟨by dsimp only; omega, by dsimp only; omega⟩, HP1.out, pthE0, by show (0 : Nat) ≤ 16; omega⟩
    obtain ⟨k0, k1, k2, k3, k4, k5⟩ := X1.out.box.c
    have f0 := X1.out.box.fr 0
    have f1 := X1.out.box.fr 1
    have f2 := X1.out.box.fr 2
    have f3 := X1.out.box.fr 3
    have f4 := X1.out.box.fr 4
    have f5 := X1.out.box.fr 5
    clear X1 R0
    go_upto_region 16 with fail
    clear k0 k1 k2 k3 k4 k5 f0 f1 f2 f3 f4 f5
    change Code.wp _ _ _ _ (fclSt u5 q1 ⟨6, 0, 0, p1, ⟨#[]⟩, ⟨#[]⟩⟩)
    generalize (fclSt u5 q1 ⟨6, 0, 0, p1, ⟨#[]⟩, ⟨#[]⟩⟩) = v2 at X2 R2 ⊢
    generalize (⟨6, 0, 0, p1, ⟨#[]⟩, ⟨#[]⟩⟩ : Fcl) = y at X2 HY
    have X3 : Hid (FclB (fclSt v2 q0 y) q0 y) := R2.out.box.st y
    have QS : Hid (SrcA (fclSt v2 q0 y) b a len cap (A + 10)) := (R2.out.src.ofBlock (fclSt_block (Ne.symm R2.out.ne))).mono (by omega)
    have QO : Hid (OnlyB b w (fclSt v2 q0 y)) := R2.out.only.fclSt R2.out.ge y
    obtain ⟨k0, k1, k2, k3, k4, k5⟩ := X2.out.box.c
    obtain ⟨r0, r1, r2, r3, r4, r5⟩ := R2.out.box.c
    have f0 := R2.out.box.fr 0
    have f1 := R2.out.box.fr 1
    have f2 := R2.out.box.fr 2
    have f3 := R2.out.box.fr 3
    have f4 := R2.out.box.fr 4
    have f5 := R2.out.box.fr 5
    clear X2 R2
    go_wp2
    exact ret_cell (b := q0) (v := .agg #[.int .i64 y.k, .int .i64 y.a, .int .i64 y.n, .string y.p, .string y.o, .string y.d]) Tryz.results21 rfl X3.out.load ⟨⟨y, rfl, HY.out⟩, QS.out, QO.out⟩
  · go_wp2_with fail
    refine (PL.out (A + 1 + 1 + 1 + 1) u4 (by have := HA.out; omega) R0.out.src R0.out.cd).mono ?_
    rintro e u5 ⟨⟨p1, hp1, rfl⟩, hs, ho⟩
    replace R0 : Hid (FcS w u5 b a len cap (A + 1 + 1 + 1 + 1 + 1) q0 z fclZ) := R0.out.draw HSEP.out hs ho
    replace X1 : Hid (FcS w u5 b a len cap (A + 1 + 1 + 1 + 1 + 1) q1 z y0) := X1.out.draw HSEP.out hs ho
    have HP1 : Hid (PthE p1) := hp1
    clear hs ho
    clear hp1
    have X2 : Hid (FcS w (fclSt u5 q1 ⟨7, 0, 0, p1, ⟨#[]⟩, ⟨#[]⟩⟩) b a len cap (A + 1 + 1 + 1 + 1 + 1) q1 z ⟨7, 0, 0, p1, ⟨#[]⟩, ⟨#[]⟩⟩) := X1.out.st HCL.out ⟨7, 0, 0, p1, ⟨#[]⟩, ⟨#[]⟩⟩
    have R2 : Hid (FcS w (fclSt u5 q1 ⟨7, 0, 0, p1, ⟨#[]⟩, ⟨#[]⟩⟩) b a len cap (A + 1 + 1 + 1 + 1 + 1) q0 z fclZ) := ⟨X2.out.src, X2.out.cd, R0.out.box.ofBlock (fclSt_block (Ne.symm HNE.out)), X2.out.only, R0.out.ge, R0.out.ne⟩
    have HY : Hid (FclD ⟨7, 0, 0, p1, ⟨#[]⟩, ⟨#[]⟩⟩) := ⟨⟨by dsimp only; omega, by dsimp only; omega⟩, ⟨by dsimp only; omega, by dsimp only; omega⟩, ⟨by dsimp only; omega, by dsimp only; omega⟩, HP1.out, pthE0, by show (0 : Nat) ≤ 16; omega⟩
    obtain ⟨k0, k1, k2, k3, k4, k5⟩ := X1.out.box.c
    have f0 := X1.out.box.fr 0
    have f1 := X1.out.box.fr 1
    have f2 := X1.out.box.fr 2
    have f3 := X1.out.box.fr 3
    have f4 := X1.out.box.fr 4
    have f5 := X1.out.box.fr 5
    clear X1 R0
    go_upto_region 16 with fail
    clear k0 k1 k2 k3 k4 k5 f0 f1 f2 f3 f4 f5
    change Code.wp _ _ _ _ (fclSt u5 q1 ⟨7, 0, 0, p1, ⟨#[]⟩, ⟨#[]⟩⟩)
    generalize (fclSt u5 q1 ⟨7, 0, 0, p1, ⟨#[]⟩, ⟨#[]⟩⟩) = v2 at X2 R2 ⊢
    generalize (⟨7, 0, 0, p1, ⟨#[]⟩, ⟨#[]⟩⟩ : Fcl) = y at X2 HY
    have X3 : Hid (FclB (fclSt v2 q0 y) q0 y) := R2.out.box.st y
    have QS : Hid (SrcA (fclSt v2 q0 y) b a len cap (A + 10)) := (R2.out.src.ofBlock (fclSt_block (Ne.symm R2.out.ne))).mono (by omega)
    have QO : Hid (OnlyB b w (fclSt v2 q0 y)) := R2.out.only.fclSt R2.out.ge y
    obtain ⟨k0, k1, k2, k3, k4, k5⟩ := X2.out.box.c
    obtain ⟨r0, r1, r2, r3, r4, r5⟩ := R2.out.box.c
    have f0 := R2.out.box.fr 0
    have f1 := R2.out.box.fr 1
    have f2 := R2.out.box.fr 2
    have f3 := R2.out.box.fr 3
    have f4 := R2.out.box.fr 4
    have f5 := R2.out.box.fr 5
    clear X2 R2
    go_wp2
    exact ret_cell (b := q0) (v := .agg #[.int .i64 y.k, .int .i64 y.a, .int .i64 y.n, .string y.p, .string y.o, .string y.d]) Tryz.results21 rfl X3.out.load ⟨⟨y, rfl, HY.out⟩, QS.out, QO.out⟩
  · skip
    have X2 : Hid (FcS w u4 b a len cap (A + 1 + 1 + 1 + 1) q1 z y0) := X1.out
    have R2 : Hid (FcS w u4 b a len cap (A + 1 + 1 + 1 + 1) q0 z fclZ) := R0.out
    have HY : Hid (FclD y0) := HX1.out
    clear X1 R0 HX1
    go_upto_region 16 with fail
    obtain ⟨v2, hv2⟩ : ∃ v2, v2 = u4 := ⟨_, rfl⟩
    obtain ⟨y, hy⟩ : ∃ y, y = y0 := ⟨_, rfl⟩
    rw [← hv2] at X2 R2 ⊢
    rw [← hy] at X2 HY
    clear hv2 hy
    have X3 : Hid (FclB (fclSt v2 q0 y) q0 y) := R2.out.box.st y
    have QS : Hid (SrcA (fclSt v2 q0 y) b a len cap (A + 10)) := (R2.out.src.ofBlock (fclSt_block (Ne.symm R2.out.ne))).mono (by omega)
    have QO : Hid (OnlyB b w (fclSt v2 q0 y)) := R2.out.only.fclSt R2.out.ge y
    obtain ⟨k0, k1, k2, k3, k4, k5⟩ := X2.out.box.c
    obtain ⟨r0, r1, r2, r3, r4, r5⟩ := R2.out.box.c
    have f0 := R2.out.box.fr 0
    have f1 := R2.out.box.fr 1
    have f2 := R2.out.box.fr 2
    have f3 := R2.out.box.fr 3
    have f4 := R2.out.box.fr 4
    have f5 := R2.out.box.fr 5
    clear X2 R2
    go_wp2
    exact ret_cell (b := q0) (v := .agg #[.int .i64 y.k, .int .i64 y.a, .int .i64 y.n, .string y.p, .string y.o, .string y.d]) Tryz.results21 rfl X3.out.load ⟨⟨y, rfl, HY.out⟩, QS.out, QO.out⟩
  · skip
    have X2 : Hid (FcS w u4 b a len cap (A + 1 + 1 + 1 + 1) q1 z y0) := X1.out
    have R2 : Hid (FcS w u4 b a len cap (A + 1 + 1 + 1 + 1) q0 z fclZ) := R0.out
    have HY : Hid (FclD y0) := HX1.out
    clear X1 R0 HX1
    go_upto_region 16 with fail
    obtain ⟨v2, hv2⟩ : ∃ v2, v2 = u4 := ⟨_, rfl⟩
    obtain ⟨y, hy⟩ : ∃ y, y = y0 := ⟨_, rfl⟩
    rw [← hv2] at X2 R2 ⊢
    rw [← hy] at X2 HY
    clear hv2 hy
    have X3 : Hid (FclB (fclSt v2 q0 y) q0 y) := R2.out.box.st y
    have QS : Hid (SrcA (fclSt v2 q0 y) b a len cap (A + 10)) := (R2.out.src.ofBlock (fclSt_block (Ne.symm R2.out.ne))).mono (by omega)
    have QO : Hid (OnlyB b w (fclSt v2 q0 y)) := R2.out.only.fclSt R2.out.ge y
    obtain ⟨k0, k1, k2, k3, k4, k5⟩ := X2.out.box.c
    obtain ⟨r0, r1, r2, r3, r4, r5⟩ := R2.out.box.c
    have f0 := R2.out.box.fr 0
    have f1 := R2.out.box.fr 1
    have f2 := R2.out.box.fr 2
    have f3 := R2.out.box.fr 3
    have f4 := R2.out.box.fr 4
    have f5 := R2.out.box.fr 5
    clear X2 R2
    go_wp2
    exact ret_cell (b := q0) (v := .agg #[.int .i64 y.k, .int .i64 y.a, .int .i64 y.n, .string y.p, .string y.o, .string y.d]) Tryz.results21 rfl X3.out.load ⟨⟨y, rfl, HY.out⟩, QS.out, QO.out⟩
set_option maxRecDepth 100000 in
theorem fileCallOf_ex (a : Option Addr) (len cap : Nat) (z : Nat → Nat) (hz : ∀ i, z i < 256) (hl : len ≤ maxLen) (w : World) (hc : Code8 w a len z) :
    Calls Tryz.prog 6 #[.slice a len cap] w fun e w' => (∃ x : Fcl, e = .returned (.agg #[.int .i64 x.k, .int .i64 x.a, .int .i64 x.n, .string x.p, .string x.o, .string x.d]) ∧ FclD x) ∧ Below w.heap.size w w' := by
  have W1 : Below w.heap.size w (w.alloc (.cells #[.int .i64 0, .int .i64 0, .int .i64 0, .string ⟨#[]⟩, .string ⟨#[]⟩, .string ⟨#[]⟩] 26)) := (Below.refl _ _).alloc (Nat.le_refl _) _
  have B1 : Hid (Below w.heap.size w (w.alloc (.cells #[.int .i64 0, .int .i64 0, .int .i64 0, .string ⟨#[]⟩, .string ⟨#[]⟩, .string ⟨#[]⟩] 26))) := W1
  have HC : Hid (Code8 (w.alloc (.cells #[.int .i64 0, .int .i64 0, .int .i64 0, .string ⟨#[]⟩, .string ⟨#[]⟩, .string ⟨#[]⟩] 26)) a len z) := hc.below W1
  have R0 : Hid (FclB (w.alloc (.cells #[.int .i64 0, .int .i64 0, .int .i64 0, .string ⟨#[]⟩, .string ⟨#[]⟩, .string ⟨#[]⟩] 26)) w.heap.size fclZ) := FclB.madeOf (x := fclZ) rfl
  have HLT : Hid (∀ x, 0 < len → a = some x → x.block < w.heap.size) := fun x h0 hx => hc.lt x h0 hx
  clear hc W1
  go_enter Tryz.func6, Tryz.ntmps6
  go_wp2_with fail
  generalize (w.alloc (.cells #[.int .i64 0, .int .i64 0, .int .i64 0, .string ⟨#[]⟩, .string ⟨#[]⟩, .string ⟨#[]⟩] 26)) = v0 at *
  obtain ⟨q0, hq0⟩ : ∃ x, x = w.heap.size := ⟨_, rfl⟩
  rw [← hq0] at R0 ⊢
  have HQ : Hid (w.heap.size ≤ q0) := Nat.le_of_eq hq0.symm
  clear hq0
  refine (source_any a len cap hl v0).mono ?_
  rintro e w1 ⟨rfl, hs, hb⟩
  have FC : Hid (Calls Tryz.prog 21 #[.pointer (some ⟨v0.heap.size, 0, none⟩)] w1 fun e w' => (∃ x : Fcl, e = .returned (.agg #[.int .i64 x.k, .int .i64 x.a, .int .i64 x.n, .string x.p, .string x.o, .string x.d]) ∧ FclD x) ∧ SrcA w' v0.heap.size a len cap (0 + 10) ∧ OnlyB v0.heap.size w1 w') := fileCall_ex v0.heap.size a len cap 0 z hz (by omega) hl (fun x h0 hx => by have := HLT.out x h0 hx; have := B1.out.size; omega) w1 ⟨0, len % 1000, by omega, by omega, hs⟩ (HC.out.below hb)
  have HB : Hid (Below v0.heap.size v0 w1) := hb
  have HNE : Hid (q0 ≠ v0.heap.size) := Nat.ne_of_lt R0.out.lt
  replace R0 : Hid (FclB w1 q0 fclZ) := R0.out.below hb
  clear hs hb hz hl
  go_wp2_with fail
  refine FC.out.mono ?_
  rintro e w2 ⟨⟨y, rfl, hy⟩, _, ho⟩
  have HY : Hid (FclD y) := hy
  have R2 : Hid (FclB w2 q0 fclZ) := R0.out.onlyB ho HNE.out
  have HB2 : Below v0.heap.size v0 w2 := HB.out.trans (ho.toBelow (Nat.le_refl _) HB.out.size)
  have X3 : Hid (FclB (fclSt w2 q0 y) q0 y) := R2.out.st y
  have B3 : Hid (Below w.heap.size w (fclSt w2 q0 y)) := fclSt_below (B1.out.trans (HB2.mono B1.out.size)) HQ.out y
  obtain ⟨r0, r1, r2, r3, r4, r5⟩ := R2.out.c
  have f0 := R2.out.fr 0
  have f1 := R2.out.fr 1
  have f2 := R2.out.fr 2
  have f3 := R2.out.fr 3
  have f4 := R2.out.fr 4
  have f5 := R2.out.fr 5
  clear R2 R0 hy ho HB2 FC HB HNE HC B1 HLT
  go_wp2
  exact ret_cell (b := q0) (v := .agg #[.int .i64 y.k, .int .i64 y.a, .int .i64 y.n, .string y.p, .string y.o, .string y.d]) Tryz.results6 rfl X3.out.load ⟨⟨y, rfl, HY.out⟩, B3.out⟩
end Go.Proofs.YtgcdoabcopihlaaGreat
