/-
  Draws of paths and data (written by a program out of DrawD, DrawD2).
-/
import Derived.Test.YtgcdoabcopihlaaGreatSrcN
import Derived.Test.YtgcdoabcopihlaaGreatC04
import Derived.Test.YtgcdoabcopihlaaGreatC07
import Derived.OwnWalk
namespace Go.Proofs.YtgcdoabcopihlaaGreat
open Go.ChangeShapes Go.WideShapes Go.ChangeAt Go.RowKit
set_option linter.unusedVariables false
set_option maxRecDepth 100000 in
theorem pick_n (n : Nat) (hn : 2 ≤ n) (hn2 : n ≤ 256) (f : Nat → ByteArray) (g : Nat) (b : Nat) (a : Option Addr) (len cap A : Nat) (z : Nat → Nat) (hz : ∀ i, z i < 256) (hA : A ≤ 100000) (hl : len ≤ maxLen) (hsep : ∀ x, 0 < len → a = some x → x.block ≠ b) (w : World) (h : SrcA w b a len cap A) (hc : Code8 w a len z) (hg : g ≠ b) (hs : Strs w (some ⟨g, 0, none⟩) n f) :
    Calls Tryz.prog 42 #[.pointer (some ⟨b, 0, none⟩), .slice (some ⟨g, 0, none⟩) n n] w fun e w' => (∃ r : Nat, r < n ∧ e = .returned (.string (f r))) ∧ SrcA w' b a len cap (A + 1) ∧ OnlyB b w w' := by
  have NX : Hid (∀ w : World, SrcA w b a len cap A → Code8 w a len z → Calls Tryz.prog 38 #[.pointer (some ⟨b, 0, none⟩), .int .i64 (n : Int)] w fun e w' => (∃ r : Nat, r < n ∧ e = .returned (.int .i64 (r : Int))) ∧ SrcA w' b a len cap (A + 1) ∧ OnlyB b w w') := fun w h1 h2 => next_ex n hn hn2 b a len cap A z hz hA hl hsep w h1 h2
  have H : Hid (SrcA w b a len cap A) := h
  have HC : Hid (Code8 w a len z) := hc
  have HS : Hid (∀ i, i < n → g < w.heap.size ∧ w.cell? ⟨g, i, none⟩ = some (.string (f i))) := fun i hi => by
    obtain ⟨b', o', e, c⟩ := hs i hi
    cases e
    rw [Nat.zero_add] at c
    exact ⟨strBlock c, c⟩
  have n0 : ¬ (n : Int) = 0 := by omega
  have n1 : ((n : Int) == 0) = false := by simpa using n0
  clear h hc hsep hz hs
  go_enter Tryz.func42, Tryz.ntmps42
  go_wp2_with fail
  refine (NX.out _ H.out HC.out).mono ?_
  rintro e w1 ⟨⟨r, hr, rfl⟩, hs1, ho1⟩
  have c1 : w1.cell? ⟨g, r, none⟩ = some (.string (f r)) := by
    obtain ⟨q1, q2⟩ := HS.out r hr
    rw [World.cell?_of_block (w := w) (ho1.block g q1 hg)]
    exact q2
  have HS1 : Hid (SrcA w1 b a len cap (A + 1)) := hs1
  have HO1 : Hid (OnlyB b w w1) := ho1
  have x1 : (r : Int) < (n : Int) := by omega
  have x0 : ¬ (r : Int) < 0 := by omega
  clear hs1 ho1
  go_wp2
  go_ret
  exact ⟨⟨r, hr, rfl⟩, HS1.out, HO1.out⟩
theorem okc_sl {c : Int} (h : okc c = true) : c ≠ 47 := fun e => by subst e; exact absurd h (by decide)
theorem nm_path {x : ByteArray} (h : Nm x) : PathOk x := by
  refine ⟨h.2.1, fun y hy => ?_⟩
  have hs := scan_to x 0 0 x.size (by omega) (fun k _ hk => okc_sl (h.2.2.2 k (by omega)))
  rw [hs, scan_end _ _ _ (by omega)] at hy
  obtain rfl := List.mem_singleton.1 hy
  rw [ByteArray.extract_zero_size]
  exact h
theorem join_path {a b : ByteArray} (ha : PathOk a) (hb : PathOk b) (hl : (a ++ (⟨#[47]⟩ : ByteArray) ++ b).size ≤ 40) : PathOk (a ++ ⟨#[47]⟩ ++ b) := by
  refine ⟨hl, fun x hx => ?_⟩
  rw [scan_slash a b 0 0 (Nat.zero_le _)] at hx
  rcases List.mem_append.1 hx with q | q
  · exact ha.2 x q
  · exact hb.2 x q
def pthF (i : Nat) : ByteArray := if i = 0 then ⟨#[97]⟩ else if i = 1 then ⟨#[98]⟩ else if i = 2 then ⟨#[100, 105, 114]⟩ else if i = 3 then ⟨#[100, 105, 114, 47, 97]⟩ else if i = 4 then ⟨#[100, 105, 114, 47, 98]⟩ else if i = 5 then ⟨#[100, 105, 114, 47, 115, 117, 98]⟩ else if i = 6 then ⟨#[100, 105, 114, 47, 115, 117, 98, 47, 120]⟩ else if i = 7 then ⟨#[111, 116, 104, 101, 114]⟩ else ⟨#[111, 116, 104, 101, 114, 47, 97]⟩
def pthC : Array Value := #[.string ⟨#[97]⟩, .string ⟨#[98]⟩, .string ⟨#[100, 105, 114]⟩, .string ⟨#[100, 105, 114, 47, 97]⟩, .string ⟨#[100, 105, 114, 47, 98]⟩, .string ⟨#[100, 105, 114, 47, 115, 117, 98]⟩, .string ⟨#[100, 105, 114, 47, 115, 117, 98, 47, 120]⟩, .string ⟨#[111, 116, 104, 101, 114]⟩, .string ⟨#[111, 116, 104, 101, 114, 47, 97]⟩]
theorem pthC_strs (w : World) : Strs (w.alloc (.cells pthC 9)) (some ⟨w.heap.size, 0, none⟩) 9 pthF := fun i hi => by
  refine ⟨w.heap.size, 0, rfl, ?_⟩
  rw [Nat.zero_add]
  have hk : (w.alloc (.cells pthC 9)).heap[w.heap.size]? = some (.cells pthC 9 (0, 0)) := Deep.blk_alloc_new _ _
  generalize w.alloc (.cells pthC 9) = v at *
  match i, hi with
  | 0, _ => simp [World.cell?, hk, pthC, pthF]
  | 1, _ => simp [World.cell?, hk, pthC, pthF]
  | 2, _ => simp [World.cell?, hk, pthC, pthF]
  | 3, _ => simp [World.cell?, hk, pthC, pthF]
  | 4, _ => simp [World.cell?, hk, pthC, pthF]
  | 5, _ => simp [World.cell?, hk, pthC, pthF]
  | 6, _ => simp [World.cell?, hk, pthC, pthF]
  | 7, _ => simp [World.cell?, hk, pthC, pthF]
  | 8, _ => simp [World.cell?, hk, pthC, pthF]
theorem pthF_ok (i : Nat) : PathOk (pthF i) := by
  unfold pthF
  split
  · exact nm_path (by refine ⟨by decide, by decide, by decide, ?_⟩; decide)
  split
  · exact nm_path (by refine ⟨by decide, by decide, by decide, ?_⟩; decide)
  split
  · exact nm_path (by refine ⟨by decide, by decide, by decide, ?_⟩; decide)
  split
  · exact (join_path (a := ⟨#[100, 105, 114]⟩) (b := ⟨#[97]⟩) (nm_path (by refine ⟨by decide, by decide, by decide, ?_⟩; decide)) (nm_path (by refine ⟨by decide, by decide, by decide, ?_⟩; decide)) (by decide))
  split
  · exact (join_path (a := ⟨#[100, 105, 114]⟩) (b := ⟨#[98]⟩) (nm_path (by refine ⟨by decide, by decide, by decide, ?_⟩; decide)) (nm_path (by refine ⟨by decide, by decide, by decide, ?_⟩; decide)) (by decide))
  split
  · exact (join_path (a := ⟨#[100, 105, 114]⟩) (b := ⟨#[115, 117, 98]⟩) (nm_path (by refine ⟨by decide, by decide, by decide, ?_⟩; decide)) (nm_path (by refine ⟨by decide, by decide, by decide, ?_⟩; decide)) (by decide))
  split
  · exact (join_path (a := ⟨#[100, 105, 114]⟩) (b := ⟨#[115, 117, 98, 47, 120]⟩) (nm_path (by refine ⟨by decide, by decide, by decide, ?_⟩; decide)) ((join_path (a := ⟨#[115, 117, 98]⟩) (b := ⟨#[120]⟩) (nm_path (by refine ⟨by decide, by decide, by decide, ?_⟩; decide)) (nm_path (by refine ⟨by decide, by decide, by decide, ?_⟩; decide)) (by decide))) (by decide))
  split
  · exact nm_path (by refine ⟨by decide, by decide, by decide, ?_⟩; decide)
  · exact (join_path (a := ⟨#[111, 116, 104, 101, 114]⟩) (b := ⟨#[97]⟩) (nm_path (by refine ⟨by decide, by decide, by decide, ?_⟩; decide)) (nm_path (by refine ⟨by decide, by decide, by decide, ?_⟩; decide)) (by decide))
def drsF (i : Nat) : ByteArray := if i = 0 then ⟨#[100, 105, 114]⟩ else if i = 1 then ⟨#[111, 116, 104, 101, 114]⟩ else ⟨#[100, 105, 114, 47, 115, 117, 98]⟩
def drsC : Array Value := #[.string ⟨#[100, 105, 114]⟩, .string ⟨#[111, 116, 104, 101, 114]⟩, .string ⟨#[100, 105, 114, 47, 115, 117, 98]⟩]
theorem drsC_strs (w : World) : Strs (w.alloc (.cells drsC 9)) (some ⟨w.heap.size, 0, none⟩) 3 drsF := fun i hi => by
  refine ⟨w.heap.size, 0, rfl, ?_⟩
  rw [Nat.zero_add]
  have hk : (w.alloc (.cells drsC 9)).heap[w.heap.size]? = some (.cells drsC 9 (0, 0)) := Deep.blk_alloc_new _ _
  generalize w.alloc (.cells drsC 9) = v at *
  match i, hi with
  | 0, _ => simp [World.cell?, hk, drsC, drsF]
  | 1, _ => simp [World.cell?, hk, drsC, drsF]
  | 2, _ => simp [World.cell?, hk, drsC, drsF]
theorem drsF_ok (i : Nat) : PathOk (drsF i) := by
  unfold drsF
  split
  · exact nm_path (by refine ⟨by decide, by decide, by decide, ?_⟩; decide)
  split
  · exact nm_path (by refine ⟨by decide, by decide, by decide, ?_⟩; decide)
  · exact (join_path (a := ⟨#[100, 105, 114]⟩) (b := ⟨#[115, 117, 98]⟩) (nm_path (by refine ⟨by decide, by decide, by decide, ?_⟩; decide)) (nm_path (by refine ⟨by decide, by decide, by decide, ?_⟩; decide)) (by decide))
def daF (i : Nat) : ByteArray := if i = 0 then ⟨#[]⟩ else if i = 1 then ⟨#[97, 98, 99]⟩ else if i = 2 then ⟨#[98, 108, 111, 99, 107, 32, 111, 102, 32, 100, 97, 116, 97]⟩ else if i = 3 then ⟨#[48, 49, 50, 51, 52, 53, 54, 55, 56, 57, 97, 98, 99, 100, 101, 102]⟩ else ⟨#[120]⟩
theorem daF_size (i : Nat) : (daF i).size ≤ 16 := by
  unfold daF
  split
  · decide
  split
  · decide
  split
  · decide
  split
  · decide
  · decide
def daC : Array Value := #[.string ⟨#[]⟩, .string ⟨#[97, 98, 99]⟩, .string ⟨#[98, 108, 111, 99, 107, 32, 111, 102, 32, 100, 97, 116, 97]⟩, .string ⟨#[48, 49, 50, 51, 52, 53, 54, 55, 56, 57, 97, 98, 99, 100, 101, 102]⟩, .string ⟨#[120]⟩]
theorem daC_strs (w : World) : Strs (w.alloc (.cells daC 9)) (some ⟨w.heap.size, 0, none⟩) 5 daF := fun i hi => by
  refine ⟨w.heap.size, 0, rfl, ?_⟩
  rw [Nat.zero_add]
  have hk : (w.alloc (.cells daC 9)).heap[w.heap.size]? = some (.cells daC 9 (0, 0)) := Deep.blk_alloc_new _ _
  generalize w.alloc (.cells daC 9) = v at *
  match i, hi with
  | 0, _ => simp [World.cell?, hk, daC, daF]
  | 1, _ => simp [World.cell?, hk, daC, daF]
  | 2, _ => simp [World.cell?, hk, daC, daF]
  | 3, _ => simp [World.cell?, hk, daC, daF]
  | 4, _ => simp [World.cell?, hk, daC, daF]
set_option maxRecDepth 100000 in
theorem datum_f (b : Nat) (a : Option Addr) (len cap A : Nat) (z : Nat → Nat) (hz : ∀ i, z i < 256) (hA : A ≤ 100000) (hl : len ≤ maxLen) (hsep : ∀ x, 0 < len → a = some x → x.block ≠ b) (w : World) (h : SrcA w b a len cap A) (hc : Code8 w a len z) :
    Calls Tryz.prog 47 #[.pointer (some ⟨b, 0, none⟩)] w fun e w' => (∃ s : ByteArray, s.size ≤ 16 ∧ e = .returned (.string s)) ∧ SrcA w' b a len cap (A + 1) ∧ OnlyB b w w' := by
  have hbl := h.lt
  have L : Below w.heap.size w (w.alloc (.cells daC 9)) := (Below.refl _ _).alloc (Nat.le_refl _) _
  have PK : Hid (Calls Tryz.prog 42 #[.pointer (some ⟨b, 0, none⟩), .slice (some ⟨w.heap.size, 0, none⟩) 5 5] (w.alloc (.cells daC 9)) fun e w' => (∃ r : Nat, r < 5 ∧ e = .returned (.string (daF r))) ∧ SrcA w' b a len cap (A + 1) ∧ OnlyB b (w.alloc (.cells daC 9)) w') := pick_n 5 (by omega) (by omega) daF w.heap.size b a len cap A z hz hA hl hsep _ (h.below L) (hc.below L) (by omega) (daC_strs w)
  have HL : Hid (OnlyB b w (w.alloc (.cells daC 9))) := (OnlyB.refl b w).below L
  clear h hc hsep hz L
  unfold daC at PK HL
  go_enter Tryz.func47, Tryz.ntmps47
  go_wp2_with fail
  refine PK.out.mono ?_
  rintro e w1 ⟨⟨r, hr, rfl⟩, hs1, ho1⟩
  have HS1 : Hid (SrcA w1 b a len cap (A + 1)) := hs1
  have HO1 : Hid (OnlyB b w w1) := HL.out.trans ho1
  have HD : Hid ((daF r).size ≤ 16) := daF_size r
  clear hs1 ho1 PK HL
  generalize daF r = s at *
  go_wp2
  go_ret
  exact ⟨⟨s, HD.out, rfl⟩, HS1.out, HO1.out⟩
set_option maxRecDepth 100000 in
theorem size_14 (b : Nat) (a : Option Addr) (len cap A : Nat) (hl : len ≤ maxLen) (w : World) (h : SrcA w b a len cap A) :
    Calls Tryz.prog 39 #[.pointer (some ⟨b, 0, none⟩), .int .i64 14] w fun e w' => (∃ r : Nat, 1 ≤ r ∧ r ≤ 14 ∧ e = .returned (.int .i64 (r : Int))) ∧ w' = w := by
  have c0 := h.load0
  have hl' : (len : Int) ≤ 9223372036854775807 := by unfold maxLen at hl; omega
  have et : (len : Int).tdiv 12 = ((len / 12 : Nat) : Int) := (Int.ofNat_tdiv len 12).symm
  have eb : 12 * (len / 12) ≤ len := Nat.mul_div_le _ _
  have em : (len : Int) / 12 = ((len / 12 : Nat) : Int) := by omega
  clear h
  generalize len / 12 = M at *
  have y1 : (M : Int) + 1 ≤ 9223372036854775807 := by omega
  have y2 : (M : Int) ≤ 1000000000000000000 := by omega
  by_cases hM : (14 : Int) < 1 + (M : Int)
  · go_enter Tryz.func39, Tryz.ntmps39
    go_wp2
    go_ret
    refine ⟨⟨14, by omega, by omega, ?_⟩, rfl⟩
    go_num
  · go_enter Tryz.func39, Tryz.ntmps39
    go_wp2
    go_ret
    refine ⟨⟨1 + M, by omega, by omega, ?_⟩, rfl⟩
    go_num
set_option maxRecDepth 100000 in
theorem path_f (b : Nat) (a : Option Addr) (len cap A : Nat) (z : Nat → Nat) (hz : ∀ i, z i < 256) (hA : A ≤ 100000) (hl : len ≤ maxLen) (hsep : ∀ x, 0 < len → a = some x → x.block ≠ b) (w : World) (h : SrcA w b a len cap A) (hc : Code8 w a len z) :
    Calls Tryz.prog 40 #[.pointer (some ⟨b, 0, none⟩)] w fun e w' => (∃ s : ByteArray, PathOk s ∧ e = .returned (.string s)) ∧ SrcA w' b a len cap (A + 1) ∧ OnlyB b w w' := by
  have hbl := h.lt
  have L : Below w.heap.size w (w.alloc (.cells pthC 9)) := (Below.refl _ _).alloc (Nat.le_refl _) _
  have PK : Hid (Calls Tryz.prog 42 #[.pointer (some ⟨b, 0, none⟩), .slice (some ⟨w.heap.size, 0, none⟩) 9 9] (w.alloc (.cells pthC 9)) fun e w' => (∃ r : Nat, r < 9 ∧ e = .returned (.string (pthF r))) ∧ SrcA w' b a len cap (A + 1) ∧ OnlyB b (w.alloc (.cells pthC 9)) w') := pick_n 9 (by omega) (by omega) pthF w.heap.size b a len cap A z hz hA hl hsep _ (h.below L) (hc.below L) (by omega) (pthC_strs w)
  have HL : Hid (OnlyB b w (w.alloc (.cells pthC 9))) := (OnlyB.refl b w).below L
  clear h hc hsep hz L
  unfold pthC at PK HL
  go_enter Tryz.func40, Tryz.ntmps40
  go_wp2_with fail
  refine PK.out.mono ?_
  rintro e w1 ⟨⟨r, hr, rfl⟩, hs1, ho1⟩
  have HS1 : Hid (SrcA w1 b a len cap (A + 1)) := hs1
  have HO1 : Hid (OnlyB b w w1) := HL.out.trans ho1
  have HD : Hid (PathOk (pthF r)) := pthF_ok r
  clear hs1 ho1 PK HL
  generalize pthF r = s at *
  go_wp2
  go_ret
  exact ⟨⟨s, HD.out, rfl⟩, HS1.out, HO1.out⟩
theorem CtP.keeps {n : Nat} {F : Nat → Fi} {p : ByteArray} {k : Int} {m : Nat} {G : Nat → Fi} {c : Int} (h : FsOk n F) (hp : PathOk p) (hm : CtP n F p k m G c) : FsOk m G := by
  rcases hm with ⟨_, _, rfl, rfl⟩ | ⟨a, ⟨_, _, rfl, rfl⟩ | ⟨e, _, j, hj, ej, g⟩⟩
  · exact h
  · exact h
  · refine g.keeps h ⟨hp, ?_, fun q => by cases q⟩ (fun q => absurd ej (q j hj)) (fun t ht et => ?_)
    · show (cutT (F j).t k.toNat).size ≤ 200
      unfold cutT
      rw [kstr_size]
      omega
    · rcases a with ⟨q, _⟩ | ⟨y, hy, ey, ⟨_, q⟩ | ⟨q, _⟩⟩
      · exact absurd ej (q j hj)
      · cases q
      · rw [h.srt.uniq ht hy (et.trans ey.symm)]; exact q
theorem WrP.keeps {n : Nat} {F : Nat → Fi} {p : ByteArray} {k : Int} {s : ByteArray} {m : Nat} {G : Nat → Fi} {c : Int} (h : FsOk n F) (hp : PathOk p) (hm : WrP n F p k s m G c) : FsOk m G := by
  obtain ⟨y, hy, hm⟩ := hm
  rcases hm with ⟨_, _, rfl, rfl⟩ | ⟨e, ⟨_, _, rfl, rfl⟩ | ⟨r, ⟨_, _, _, rfl, rfl⟩ | ⟨q, _, g⟩⟩⟩
  · exact h
  · exact h
  · exact h
  · have hys : y.t.size ≤ 200 := by
      rcases hy with ⟨j, hj, _, rfl⟩ | ⟨_, rfl⟩
      · exact (h.2 j hj).1.2.1
      · show (0 : Nat) ≤ 200; omega
    refine g.keeps h ⟨hp, ?_, fun q => by cases q⟩ (fun hn => ?_) (fun t ht et => ?_)
    · show (wrT y.t k.toNat s).size ≤ 200
      unfold wrT
      rw [kstr_size]
      omega
    · rcases q with ⟨j, hj, ej⟩ | q
      · exact absurd ej (hn j hj)
      · exact q.home
    · rcases hy with ⟨j, hj, ej, rfl⟩ | ⟨hn, _⟩
      · rw [h.srt.uniq ht hj (et.trans ej.symm)]; exact e
      · exact absurd et (hn t ht)
end Go.Proofs.YtgcdoabcopihlaaGreat

/-
  Draws of files (written by tools/mkdrawg.py).
-/
namespace Go.Proofs.YtgcdoabcopihlaaGreat
open Go.ChangeShapes Go.WideShapes Go.ChangeAt Go.RowKit
set_option linter.unusedVariables false
/-- Right files lie so, and the source has drawn at most A times. -/
structure FlS (w u : World) (b : Nat) (a : Option Addr) (len cap A : Nat) (o : Option Addr) (m c : Nat) (F : Nat → Fi) : Prop where
  ok : FsOk m F
  sl : SlP o m c
  el : Els u 3 o m (fiF F)
  ne : ∀ x, o = some x → x.block ≠ b
  src : SrcA u b a len cap A
  kp : OnlyB b w u
theorem FlS.draw {w u u' : World} {b : Nat} {a : Option Addr} {len cap A A' : Nat} {o : Option Addr} {m c : Nat} {F : Nat → Fi} (h : FlS w u b a len cap A o m c F) (hs : SrcA u' b a len cap A') (ho : OnlyB b u u') : FlS w u' b a len cap A' o m c F :=
  ⟨h.ok, h.sl, fun i hi => by
    obtain ⟨g, off, e, hc⟩ := h.el i hi
    have hg : g < u.heap.size := strBlock (hc 0 (by omega))
    exact ⟨g, off, e, fun j hj => by rw [World.cell?_of_block (w := u) (ho.block g hg (h.ne _ e))]; exact hc j hj⟩, h.ne, hs, h.kp.trans ho⟩
theorem FlS.call {w u u' : World} {b : Nat} {a : Option Addr} {len cap A : Nat} {o o' : Option Addr} {m c m' c' : Nat} {F G : Nat → Fi} (h : FlS w u b a len cap A o m c F) (hb : Below u.heap.size u u') (he : Els u' 3 o' m' (fiF G)) (hs : SlQ (fun x => x ≠ b) u.heap.size o' m' c') (ho : FsOk m' G) {A' : Nat} (hA : A ≤ A') : FlS w u' b a len cap A' o' m' c' G :=
  ⟨ho, hs.1, he, fun x e => (hs.2 x e).elim id (fun q => by have := h.src.lt; omega), (h.src.below hb).mono hA, h.kp.belowS hb h.kp.size⟩
set_option maxRecDepth 100000 in
set_option maxHeartbeats 4000000 in
theorem files_ex (b : Nat) (a : Option Addr) (len cap A : Nat) (z : Nat → Nat) (hz : ∀ i, z i < 256) (hA : A ≤ 90000) (hl : len ≤ maxLen) (hsep : ∀ x, 0 < len → a = some x → x.block ≠ b) (w : World) (h : SrcA w b a len cap A) (hc : Code8 w a len z) :
    Calls Tryz.prog 20 #[.pointer (some ⟨b, 0, none⟩)] w fun e w' => (∃ (o : Option Addr) (m c : Nat) (F : Nat → Fi), e = .returned (.slice o m c) ∧ FsOk m F ∧ EO w' w.heap.size 51 3 (.slice o m c) m (fiF F)) ∧ SrcA w' b a len cap (A + 100) ∧ OnlyB b w w' := by
  have NX8 : Hid (∀ (A : Nat) (u : World), A ≤ 100000 → SrcA u b a len cap A → Code8 u a len z → Calls Tryz.prog 38 #[.pointer (some ⟨b, 0, none⟩), .int .i64 8] u fun e w' => (∃ r : Nat, r < 8 ∧ e = .returned (.int .i64 (r : Int))) ∧ SrcA w' b a len cap (A + 1) ∧ OnlyB b u w') := fun A u h1 h2 h3 => next_ex 8 (by omega) (by omega) b a len cap A z hz h1 hl hsep u h2 h3
  have NX6 : Hid (∀ (A : Nat) (u : World), A ≤ 100000 → SrcA u b a len cap A → Code8 u a len z → Calls Tryz.prog 38 #[.pointer (some ⟨b, 0, none⟩), .int .i64 6] u fun e w' => (∃ r : Nat, r < 6 ∧ e = .returned (.int .i64 (r : Int))) ∧ SrcA w' b a len cap (A + 1) ∧ OnlyB b u w') := fun A u h1 h2 h3 => next_ex 6 (by omega) (by omega) b a len cap A z hz h1 hl hsep u h2 h3
  have NX9 : Hid (∀ (A : Nat) (u : World), A ≤ 100000 → SrcA u b a len cap A → Code8 u a len z → Calls Tryz.prog 38 #[.pointer (some ⟨b, 0, none⟩), .int .i64 9] u fun e w' => (∃ r : Nat, r < 9 ∧ e = .returned (.int .i64 (r : Int))) ∧ SrcA w' b a len cap (A + 1) ∧ OnlyB b u w') := fun A u h1 h2 h3 => next_ex 9 (by omega) (by omega) b a len cap A z hz h1 hl hsep u h2 h3
  have NXS : Hid (∀ (s A : Nat) (u : World), s ≤ 14 → A ≤ 100000 → SrcA u b a len cap A → Code8 u a len z → Calls Tryz.prog 38 #[.pointer (some ⟨b, 0, none⟩), .int .i64 ((s : Int) + 4)] u fun e w' => (∃ r : Nat, r < s + 4 ∧ e = .returned (.int .i64 (r : Int))) ∧ SrcA w' b a len cap (A + 1) ∧ OnlyB b u w') := fun s A u h0 h1 h2 h3 => next_ex (s + 4) (by omega) (by omega) b a len cap A z hz h1 hl hsep u h2 h3
  have SZ : Hid (∀ (A : Nat) (u : World), SrcA u b a len cap A → Calls Tryz.prog 39 #[.pointer (some ⟨b, 0, none⟩), .int .i64 14] u fun e w' => (∃ r : Nat, 1 ≤ r ∧ r ≤ 14 ∧ e = .returned (.int .i64 (r : Int))) ∧ w' = u) := fun A u h1 => size_14 b a len cap A hl u h1
  have PA : Hid (∀ (A : Nat) (u : World), A ≤ 100000 → SrcA u b a len cap A → Code8 u a len z → Calls Tryz.prog 40 #[.pointer (some ⟨b, 0, none⟩)] u fun e w' => (∃ s : ByteArray, PathOk s ∧ e = .returned (.string s)) ∧ SrcA w' b a len cap (A + 1) ∧ OnlyB b u w') := fun A u h1 h2 h3 => path_f b a len cap A z hz h1 hl hsep u h2 h3
  have DT : Hid (∀ (A : Nat) (u : World), A ≤ 100000 → SrcA u b a len cap A → Code8 u a len z → Calls Tryz.prog 47 #[.pointer (some ⟨b, 0, none⟩)] u fun e w' => (∃ s : ByteArray, s.size ≤ 16 ∧ e = .returned (.string s)) ∧ SrcA w' b a len cap (A + 1) ∧ OnlyB b u w') := fun A u h1 h2 h3 => datum_f b a len cap A z hz h1 hl hsep u h2 h3
  have PK : Hid (∀ (A : Nat) (u : World), A ≤ 100000 → SrcA u b a len cap A → Code8 u a len z → Calls Tryz.prog 42 #[.pointer (some ⟨b, 0, none⟩), .slice (some ⟨u.heap.size, 0, none⟩) 3 3] (u.alloc (.cells drsC 9)) fun e w' => (∃ s : ByteArray, PathOk s ∧ e = .returned (.string s)) ∧ SrcA w' b a len cap (A + 1) ∧ OnlyB b u w') := fun A u h1 h2 h3 => by
    have hbl := h2.lt
    have LB : Below u.heap.size u (u.alloc (.cells drsC 9)) := (Below.refl _ _).alloc (Nat.le_refl _) _
    refine (pick_n 3 (by omega) (by omega) drsF u.heap.size b a len cap A z hz h1 hl hsep _ (h2.below LB) (h3.below LB) (by omega) (drsC_strs u)).mono ?_
    rintro e w' ⟨⟨r, _, rfl⟩, hs, ho⟩
    exact ⟨⟨_, drsF_ok r, rfl⟩, hs, ((OnlyB.refl b u).below LB).trans ho⟩
  unfold drsC at PK
  have MK : Hid (∀ (A' A : Nat) (o : Option Addr) (m c : Nat) (F : Nat → Fi) (p : ByteArray) (u : World), A ≤ A' → FlS w u b a len cap A o m c F → PathOk p → Calls Tryz.prog 41 #[.slice o m c, .string p] u fun e w' => ∃ (o' : Option Addr) (m' c' : Nat) (G : Nat → Fi) (cd : Int), e = .returned (.tuple #[.slice o' m' c', .int .i64 cd]) ∧ FlS w w' b a len cap A' o' m' c' G) := by
    intro A' A o m c F p u h0 h1 h2
    refine (l11Mkdir_any o m c F p h1.ok.srt h2.1 h1.ok.1 h1.sl (fun x => x ≠ b) h1.ne u h1.el).mono ?_
    rintro e w' ⟨⟨o', m', c', G, cd, rfl, hE, hS, hM⟩, hb⟩
    exact ⟨o', m', c', G, cd, rfl, h1.call hb hE hS (hM.keeps h1.ok h2) h0⟩
  have RM : Hid (∀ (A' A : Nat) (o : Option Addr) (m c : Nat) (F : Nat → Fi) (p : ByteArray) (u : World), A ≤ A' → FlS w u b a len cap A o m c F → PathOk p → Calls Tryz.prog 44 #[.slice o m c, .string p] u fun e w' => ∃ (o' : Option Addr) (m' c' : Nat) (G : Nat → Fi) (cd : Int), e = .returned (.tuple #[.slice o' m' c', .int .i64 cd]) ∧ FlS w w' b a len cap A' o' m' c' G) := by
    intro A' A o m c F p u h0 h1 h2
    refine (l11Remove_any o m c F p h1.ok.srt h2.1 h1.ok.1 h1.sl (fun x => x ≠ b) h1.ne u h1.el).mono ?_
    rintro e w' ⟨⟨o', m', c', G, cd, rfl, hE, hS, hM⟩, hb⟩
    exact ⟨o', m', c', G, cd, rfl, h1.call hb hE hS (hM.keeps h1.ok) h0⟩
  have CT : Hid (∀ (A' A : Nat) (o : Option Addr) (m c : Nat) (F : Nat → Fi) (p : ByteArray) (y : Int) (u : World), A ≤ A' → FlS w u b a len cap A o m c F → PathOk p → Calls Tryz.prog 45 #[.slice o m c, .string p, .int .i64 y] u fun e w' => ∃ (o' : Option Addr) (m' c' : Nat) (G : Nat → Fi) (cd : Int), e = .returned (.tuple #[.slice o' m' c', .int .i64 cd]) ∧ FlS w w' b a len cap A' o' m' c' G) := by
    intro A' A o m c F p y u h0 h1 h2
    refine (l11Cut_any o m c F p y h1.ok h2.1 h1.sl (fun x => x ≠ b) h1.ne u h1.el).mono ?_
    rintro e w' ⟨⟨o', m', c', G, cd, rfl, hE, hS, hM⟩, hb⟩
    exact ⟨o', m', c', G, cd, rfl, h1.call hb hE hS (hM.keeps h1.ok h2) h0⟩
  have WR : Hid (∀ (A' A : Nat) (o : Option Addr) (m c : Nat) (F : Nat → Fi) (p : ByteArray) (y : Int) (d : ByteArray) (u : World), A ≤ A' → FlS w u b a len cap A o m c F → PathOk p ∧ d.size ≤ 16 → Calls Tryz.prog 46 #[.slice o m c, .string p, .int .i64 y, .string d] u fun e w' => ∃ (o' : Option Addr) (m' c' : Nat) (G : Nat → Fi) (cd : Int), e = .returned (.tuple #[.slice o' m' c', .int .i64 cd]) ∧ FlS w w' b a len cap A' o' m' c' G) := by
    intro A' A o m c F p y d u h0 h1 h2
    refine (l11Write_any o m c F p y d h1.ok h2.1.1 (by omega) h1.sl (fun x => x ≠ b) h1.ne u h1.el).mono ?_
    rintro e w' ⟨⟨o', m', c', G, cd, rfl, hE, hS, hM⟩, hb⟩
    exact ⟨o', m', c', G, cd, rfl, h1.call hb hE hS (hM.keeps h1.ok h2.1) h0⟩
  have MV : Hid (∀ (A' A : Nat) (o : Option Addr) (m c : Nat) (F : Nat → Fi) (p t : ByteArray) (u : World), A ≤ A' → FlS w u b a len cap A o m c F → PathOk p ∧ PathOk t → Calls Tryz.prog 43 #[.slice o m c, .string p, .string t] u fun e w' => ∃ (o' : Option Addr) (m' c' : Nat) (G : Nat → Fi) (cd : Int), e = .returned (.tuple #[.slice o' m' c', .int .i64 cd]) ∧ FlS w w' b a len cap A' o' m' c' G) := by
    intro A' A o m c F p t u h0 h1 h2
    refine (l11Move_any o m c F p t h1.ok h2.1 h2.2 h1.sl (fun x => x ≠ b) h1.ne u h1.el).mono ?_
    rintro e w' ⟨⟨o', m', c', G, cd, rfl, hE, hS, hM⟩, hb⟩
    exact ⟨o', m', c', G, cd, rfl, h1.call hb hE hS (hM.keeps h1.ok h2.1 h2.2) h0⟩
  have HC : Hid (Code8 w a len z) := hc
  have HSEP : Hid (∀ x, 0 < len → a = some x → x.block ≠ b) := hsep
  have hbl : b < w.heap.size := h.lt
  have LB0 : Below w.heap.size w (w.alloc (.cells #[] 51)) := (Below.refl _ _).alloc (Nat.le_refl _) _
  have H0 : Hid (SrcA (w.alloc (.cells #[] 51)) b a len cap A) := h.below LB0
  have HC0 : Hid (Code8 (w.alloc (.cells #[] 51)) a len z) := hc.below LB0
  have FZ : Hid (FlS w (w.alloc (.cells #[] 51)) b a len cap A (some ⟨w.heap.size, 0, none⟩) 0 0 (fun _ => fiZ)) := ⟨⟨by omega, fun i hi => absurd hi (by omega)⟩, ⟨(fun e => by cases e), .inr ⟨_, _, rfl⟩, Nat.le_refl _, by unfold maxLen; omega⟩, fun i hi => absurd hi (by omega), (fun x e => by cases e; show w.heap.size ≠ b; omega), H0.out, (OnlyB.refl b w).below LB0⟩
  clear h hc hsep hz LB0
  go_enter Tryz.func20, Tryz.ntmps20
  go_wp2_with fail
  refine (SZ.out _ _ H0.out).mono ?_
  rintro e w1 ⟨⟨s, hsa, hs2, rfl⟩, hw⟩
  cases hw
  go_wp2_with fail
  refine (NXS.out s _ _ hs2 (by omega) H0.out HC0.out).mono ?_
  rintro e w1 ⟨⟨k, hk, rfl⟩, hs1, ho1⟩
  have FL : Hid (FlS w w1 b a len cap (A + 1) (some ⟨w.heap.size, 0, none⟩) 0 0 (fun _ => fiZ)) := FZ.out.draw hs1 ho1
  clear hs1 ho1 H0 HC0 FZ SZ NXS
  have hk17 : k ≤ 17 := by omega
  clear hk hs2 hsa
  go_wp2_with fail
  go_loopw [3, 4] (fun v i wr => ∃ (q m c : Nat) (o : Option Addr) (F : Nat → Fi), q ≤ k ∧ i = .int .i64 ((k : Int) - (q : Int)) ∧ v = .slice o m c ∧ FlS w wr b a len cap (A + 1 + 4 * q) o m c F) (fun _ i _ => (intOf i).toNat)
  case atStart => exact ⟨0, 0, 0, _, _, by omega, numEqK (by omega), rfl, FL.out⟩
  case round =>
    clear FL
    obtain ⟨q, m, c, o, F, hq, rfl, rfl, hF⟩ := hrel
    have FL : Hid (FlS w wr b a len cap (A + 1 + 4 * q) o m c F) := hF
    have HCr : Hid (Code8 wr a len z) := HC.out.onlyB hF.kp HSEP.out
    clear hF
    by_cases hlt : q < k
    · have x1 : (0 : Int) < (k : Int) - (q : Int) := by omega
      have HK : Hid ((k : Int) - (q : Int) - 1 = (k : Int) - ((q + 1 : Nat) : Int)) := by show (k : Int) - (q : Int) - 1 = _; omega
      go_wp2_with fail
      refine (PA.out (A + 1 + 4 * q) _ (by omega) FL.out.src HCr.out).mono ?_
      rintro e u1 ⟨⟨p, hp, rfl⟩, hs1, ho1⟩
      have F1 : Hid (FlS w u1 b a len cap (A + 1 + 4 * q + 1) o m c F) := FL.out.draw hs1 ho1
      have HP : Hid (PathOk p) := hp
      have C1 : Hid (Code8 u1 a len z) := HC.out.onlyB F1.out.kp HSEP.out
      clear hs1 ho1 hp FL HCr
      go_wp2_with fail
      refine (NX8.out (A + 1 + 4 * q + 1) _ (by omega) F1.out.src C1.out).mono ?_
      rintro e u2 ⟨⟨r, hr, rfl⟩, hs2, ho2⟩
      have F2 : Hid (FlS w u2 b a len cap (A + 1 + 4 * q + 1 + 1) o m c F) := F1.out.draw hs2 ho2
      have C2 : Hid (Code8 u2 a len z) := HC.out.onlyB F2.out.kp HSEP.out
      clear hs2 ho2 F1 C1
      have hr' : r = 0 ∨ r = 1 ∨ r = 2 ∨ r = 3 ∨ r = 4 ∨ 5 ≤ r := by omega
      rcases hr' with rfl | rfl | rfl | rfl | rfl | h5
      · go_wp2_with fail
        refine (PK.out (A + 1 + 4 * q + 1 + 1) _ (by omega) F2.out.src C2.out).mono ?_
        rintro e u3 ⟨⟨d, hd, rfl⟩, hs3, ho3⟩
        have F3 : Hid (FlS w u3 b a len cap (A + 1 + 4 * q + 1 + 1 + 1) o m c F) := F2.out.draw hs3 ho3
        have C3 : Hid (Code8 u3 a len z) := HC.out.onlyB F3.out.kp HSEP.out
        have HD : Hid (PathOk d) := hd
        clear hs3 ho3 F2 C2
        clear hd
        go_wp2_with fail
        refine (MK.out (A + 1 + 4 * (q + 1)) _ _ _ _ F d u3 (by omega) F3.out HD.out).mono ?_
        rintro e u9 ⟨o', m', c', G, cd, rfl, hF9⟩
        have F9 : Hid (FlS w u9 b a len cap (A + 1 + 4 * (q + 1)) o' m' c' G) := hF9
        clear hF9
        go_wp2
        go_roundw
        case rel => exact ⟨q + 1, m', c', o', G, by omega, numEqK HK.out, rfl, F9.out⟩
        case measure => simp [intOf]; omega
      · go_wp2_with fail
        refine (PK.out (A + 1 + 4 * q + 1 + 1) _ (by omega) F2.out.src C2.out).mono ?_
        rintro e u3 ⟨⟨d, hd, rfl⟩, hs3, ho3⟩
        have F3 : Hid (FlS w u3 b a len cap (A + 1 + 4 * q + 1 + 1 + 1) o m c F) := F2.out.draw hs3 ho3
        have C3 : Hid (Code8 u3 a len z) := HC.out.onlyB F3.out.kp HSEP.out
        have HD : Hid (PathOk d) := hd
        clear hs3 ho3 F2 C2
        clear hd
        go_wp2_with fail
        refine (MK.out (A + 1 + 4 * (q + 1)) _ _ _ _ F d u3 (by omega) F3.out HD.out).mono ?_
        rintro e u9 ⟨o', m', c', G, cd, rfl, hF9⟩
        have F9 : Hid (FlS w u9 b a len cap (A + 1 + 4 * (q + 1)) o' m' c' G) := hF9
        clear hF9
        go_wp2
        go_roundw
        case rel => exact ⟨q + 1, m', c', o', G, by omega, numEqK HK.out, rfl, F9.out⟩
        case measure => simp [intOf]; omega
      · go_wp2_with fail
        refine (PA.out (A + 1 + 4 * q + 1 + 1) _ (by omega) F2.out.src C2.out).mono ?_
        rintro e u3 ⟨⟨d, hd, rfl⟩, hs3, ho3⟩
        have F3 : Hid (FlS w u3 b a len cap (A + 1 + 4 * q + 1 + 1 + 1) o m c F) := F2.out.draw hs3 ho3
        have C3 : Hid (Code8 u3 a len z) := HC.out.onlyB F3.out.kp HSEP.out
        have HD : Hid (PathOk d) := hd
        clear hs3 ho3 F2 C2
        clear hd
        go_wp2_with fail
        refine (MV.out (A + 1 + 4 * (q + 1)) _ _ _ _ F p d u3 (by omega) F3.out ⟨HP.out, HD.out⟩).mono ?_
        rintro e u9 ⟨o', m', c', G, cd, rfl, hF9⟩
        have F9 : Hid (FlS w u9 b a len cap (A + 1 + 4 * (q + 1)) o' m' c' G) := hF9
        clear hF9
        go_wp2
        go_roundw
        case rel => exact ⟨q + 1, m', c', o', G, by omega, numEqK HK.out, rfl, F9.out⟩
        case measure => simp [intOf]; omega
      · go_wp2_with fail
        refine (RM.out (A + 1 + 4 * (q + 1)) _ _ _ _ F p u2 (by omega) F2.out HP.out).mono ?_
        rintro e u9 ⟨o', m', c', G, cd, rfl, hF9⟩
        have F9 : Hid (FlS w u9 b a len cap (A + 1 + 4 * (q + 1)) o' m' c' G) := hF9
        clear hF9
        go_wp2
        go_roundw
        case rel => exact ⟨q + 1, m', c', o', G, by omega, numEqK HK.out, rfl, F9.out⟩
        case measure => simp [intOf]; omega
      · go_wp2_with fail
        refine (NX9.out (A + 1 + 4 * q + 1 + 1) _ (by omega) F2.out.src C2.out).mono ?_
        rintro e u3 ⟨⟨y, hy, rfl⟩, hs3, ho3⟩
        have F3 : Hid (FlS w u3 b a len cap (A + 1 + 4 * q + 1 + 1 + 1) o m c F) := F2.out.draw hs3 ho3
        have C3 : Hid (Code8 u3 a len z) := HC.out.onlyB F3.out.kp HSEP.out
        clear hs3 ho3 F2 C2
        clear hy
        go_wp2_with fail
        refine (CT.out (A + 1 + 4 * (q + 1)) _ _ _ _ F p (y : Int) u3 (by omega) F3.out HP.out).mono ?_
        rintro e u9 ⟨o', m', c', G, cd, rfl, hF9⟩
        have F9 : Hid (FlS w u9 b a len cap (A + 1 + 4 * (q + 1)) o' m' c' G) := hF9
        clear hF9
        go_wp2
        go_roundw
        case rel => exact ⟨q + 1, m', c', o', G, by omega, numEqK HK.out, rfl, F9.out⟩
        case measure => simp [intOf]; omega
      · have n0 : ¬ (r : Int) = 0 := by omega
        have n1 : ¬ (r : Int) = 1 := by omega
        have n2 : ¬ (r : Int) = 2 := by omega
        have n3 : ¬ (r : Int) = 3 := by omega
        have n4 : ¬ (r : Int) = 4 := by omega
        have e0 : ((r : Int) == 0) = false := by simpa using n0
        have e1 : ((r : Int) == 1) = false := by simpa using n1
        have e2 : ((r : Int) == 2) = false := by simpa using n2
        have e3 : ((r : Int) == 3) = false := by simpa using n3
        have e4 : ((r : Int) == 4) = false := by simpa using n4
        clear n0 n1 n2 n3 n4 h5
        go_wp2_with fail
        refine (NX6.out (A + 1 + 4 * q + 1 + 1) _ (by omega) F2.out.src C2.out).mono ?_
        rintro e u3 ⟨⟨y, hy, rfl⟩, hs3, ho3⟩
        have F3 : Hid (FlS w u3 b a len cap (A + 1 + 4 * q + 1 + 1 + 1) o m c F) := F2.out.draw hs3 ho3
        have C3 : Hid (Code8 u3 a len z) := HC.out.onlyB F3.out.kp HSEP.out
        clear hs3 ho3 F2 C2
        clear hy
        go_wp2_with fail
        refine (DT.out (A + 1 + 4 * q + 1 + 1 + 1) _ (by omega) F3.out.src C3.out).mono ?_
        rintro e u4 ⟨⟨d, hd, rfl⟩, hs4, ho4⟩
        have F4 : Hid (FlS w u4 b a len cap (A + 1 + 4 * q + 1 + 1 + 1 + 1) o m c F) := F3.out.draw hs4 ho4
        have C4 : Hid (Code8 u4 a len z) := HC.out.onlyB F4.out.kp HSEP.out
        have HD : Hid (d.size ≤ 16) := hd
        clear hs4 ho4 F3 C3
        clear hd
        go_wp2_with fail
        refine (WR.out (A + 1 + 4 * (q + 1)) _ _ _ _ F p (y : Int) d u4 (by omega) F4.out ⟨HP.out, HD.out⟩).mono ?_
        rintro e u9 ⟨o', m', c', G, cd, rfl, hF9⟩
        have F9 : Hid (FlS w u9 b a len cap (A + 1 + 4 * (q + 1)) o' m' c' G) := hF9
        clear hF9
        go_wp2
        go_roundw
        case rel => exact ⟨q + 1, m', c', o', G, by omega, numEqK HK.out, rfl, F9.out⟩
        case measure => simp [intOf]; omega
    · have x1 : ¬ (0 : Int) < (k : Int) - (q : Int) := by omega
      obtain ⟨a3, c3, v3, hr, ho3, hb3⟩ := ownAll (by have := FL.out.ok.1; omega) FL.out.el FL.out.sl.z
      have HR : Hid (EO v3 w.heap.size 51 3 (.slice a3 m c3) m (fiF F)) := ho3.mono FL.out.kp.size
      have HS : Hid (SrcA v3 b a len cap (A + 100)) := (FL.out.src.below hb3).mono (by omega)
      have HO : Hid (OnlyB b w v3) := FL.out.kp.belowS hb3 FL.out.kp.size
      have HF : Hid (FsOk m F) := FL.out.ok
      clear ho3 hb3 FL HCr
      go_wp2_with (at_builtin; refine Lib.wpList_append_run _ rfl (.tmp 69) (.tmp 70) 23 23 rfl (.slice (some ⟨wr.heap.size, 0, none⟩) 0 0) (.slice o m c) rfl rfl _ _ (hr _) ?_)
      go_ret
      exact ⟨⟨a3, m, c3, rfl, F, HF.out, HR.out⟩, HS.out, HO.out⟩
set_option maxRecDepth 100000 in
theorem filesOf_ex (a : Option Addr) (len cap : Nat) (z : Nat → Nat) (hz : ∀ i, z i < 256) (hl : len ≤ maxLen) (w : World) (hc : Code8 w a len z) :
    Calls Tryz.prog 5 #[.slice a len cap] w fun e w' => (∃ (o : Option Addr) (m c : Nat) (F : Nat → Fi), e = .returned (.slice o m c) ∧ FsOk m F ∧ EO w' w.heap.size 51 3 (.slice o m c) m (fiF F)) ∧ Below w.heap.size w w' := by
  have HC : Hid (Code8 w a len z) := hc
  have SR : Hid (Calls Tryz.prog 19 #[.slice a len cap] w fun e w' => e = .returned (.pointer (some ⟨w.heap.size, 0, none⟩)) ∧ Src w' w.heap.size a len cap 0 (len % 1000) ∧ Below w.heap.size w w') := source_any a len cap hl w
  clear hc
  go_enter Tryz.func5, Tryz.ntmps5
  go_wp2_with fail
  refine SR.out.mono ?_
  rintro e w1 ⟨rfl, hs, hb⟩
  have IM : Hid (Calls Tryz.prog 20 #[.pointer (some ⟨w.heap.size, 0, none⟩)] w1 fun e w' => (∃ (o : Option Addr) (m c : Nat) (F : Nat → Fi), e = .returned (.slice o m c) ∧ FsOk m F ∧ EO w' w1.heap.size 51 3 (.slice o m c) m (fiF F)) ∧ SrcA w' w.heap.size a len cap (0 + 100) ∧ OnlyB w.heap.size w1 w') := files_ex w.heap.size a len cap 0 z hz (by omega) hl (fun x h0 hx => Nat.ne_of_lt (HC.out.lt x h0 hx)) w1 ⟨0, len % 1000, by omega, by omega, hs⟩ (HC.out.below hb)
  have HB : Hid (Below w.heap.size w w1) := hb
  clear hs hb SR hz hl
  go_wp2_with fail
  refine IM.out.mono ?_
  rintro e w2 ⟨⟨o, m, c, F, rfl, hF, hE⟩, _, ho⟩
  have HR : Hid (EO w2 w.heap.size 51 3 (.slice o m c) m (fiF F)) := hE.mono HB.out.size
  have HF : Hid (FsOk m F) := hF
  have HB2 : Hid (Below w.heap.size w w2) := HB.out.trans (ho.toBelow (Nat.le_refl _) HB.out.size)
  clear hE hF ho IM
  go_wp2
  go_ret
  exact ⟨⟨o, m, c, F, rfl, HF.out, HR.out⟩, HB2.out⟩
end Go.Proofs.YtgcdoabcopihlaaGreat
