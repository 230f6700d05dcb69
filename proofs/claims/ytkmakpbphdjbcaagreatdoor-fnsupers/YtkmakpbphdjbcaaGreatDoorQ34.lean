/-
  Texts of the proof, joined: DrawQ, DrawS.
-/
import Derived.Test.YtkmakpbphdjbcaaGreatDoorQ28
import Derived.Test.YtkmakpbphdjbcaaGreatDoorQ29
import Derived.Test.YtkmakpbphdjbcaaGreatDoorQ33
import Derived.Test.YtkmakpbphdjbcaaGreatDoorQ30
import Derived.Test.YtkmakpbphdjbcaaGreatDoorQ13
import Derived.Test.YtkmakpbphdjbcaaGreatDoorQ38
namespace Go.Proofs.YtkmakpbphdjbcaaGreatDoor
open Go.ChangeShapes Go.WideShapes Go.ChangeAt Go.RowKit
set_option linter.unusedVariables false
set_option maxRecDepth 100000 in
theorem pick_t (n : Nat) (hn : 2 ≤ n) (hn2 : n ≤ 256) (f : Nat → ByteArray) (g : Nat) (B b : Nat) (a : Option Addr) (len cap A : Nat) (z : Nat → Nat) (hA : A ≤ 100000) (w : World) (h : SrcT w b a len cap A) (hc : Cd w B b a len z) (hg : g ≠ b) (hs : ∀ i, i < n → w.cell? ⟨g, i, none⟩ = some (.string (f i))) :
    Calls Tryz.prog 51 #[.pointer (some ⟨b, 0, none⟩), .slice (some ⟨g, 0, none⟩) n n] w fun e w' => (∃ r : Nat, r < n ∧ e = .returned (.string (f r))) ∧ SrcT w' b a len cap (A + 1) ∧ OnlyB b w w' := by
  have NX : Hid (∀ w : World, SrcT w b a len cap A → Cd w B b a len z → Calls Tryz.prog 41 #[.pointer (some ⟨b, 0, none⟩), .int .i64 (n : Int)] w fun e w' => (∃ r : Nat, r < n ∧ e = .returned (.int .i64 (r : Int))) ∧ SrcT w' b a len cap (A + 1) ∧ OnlyB b w w') := fun w h1 h2 => next_t n hn hn2 B b a len cap A z hA w h1 h2
  have H : Hid (SrcT w b a len cap A) := h
  have HC : Hid (Cd w B b a len z) := hc
  have HS : Hid (∀ i, i < n → g < w.heap.size ∧ w.cell? ⟨g, i, none⟩ = some (.string (f i))) := fun i hi => ⟨strBlock (hs i hi), hs i hi⟩
  have HG : Hid (g ≠ b) := hg
  have n0 : ¬ (n : Int) = 0 := by omega
  have n1 : ((n : Int) == 0) = false := by simpa using n0
  clear h hc hs hg
  go_enter Tryz.func51, Tryz.ntmps51
  go_wp2_with fail
  refine (NX.out _ H.out HC.out).mono ?_
  rintro e w1 ⟨⟨r, hr, rfl⟩, hs1, ho1⟩
  have c1 : w1.cell? ⟨g, r, none⟩ = some (.string (f r)) := by
    obtain ⟨q1, q2⟩ := HS.out r hr
    rw [World.cell?_of_block (w := w) (ho1.block g q1 HG.out)]
    exact q2
  have HS1 : Hid (SrcT w1 b a len cap (A + 1)) := hs1
  have HO1 : Hid (OnlyB b w w1) := ho1
  have x1 : (r : Int) < (n : Int) := by omega
  have x0 : ¬ (r : Int) < 0 := by omega
  clear hs1 ho1
  go_wp2
  go_ret
  exact ⟨⟨r, hr, rfl⟩, HS1.out, HO1.out⟩
def daF (i : Nat) : ByteArray := if i = 0 then ⟨#[]⟩ else if i = 1 then ⟨#[97, 98, 99]⟩ else if i = 2 then ⟨#[98, 108, 111, 99, 107, 32, 111, 102, 32, 100, 97, 116, 97]⟩ else if i = 3 then ⟨#[48, 49, 50, 51, 52, 53, 54, 55, 56, 57, 97, 98, 99, 100, 101, 102]⟩ else ⟨#[120]⟩
theorem daF_size (i : Nat) : (daF i).size ≤ 16 := by
  unfold daF
  split
  · decide
  split
  · decide
  split
  · decide
  split
  · decide
  · decide
def daC : Array Value := #[.string ⟨#[]⟩, .string ⟨#[97, 98, 99]⟩, .string ⟨#[98, 108, 111, 99, 107, 32, 111, 102, 32, 100, 97, 116, 97]⟩, .string ⟨#[48, 49, 50, 51, 52, 53, 54, 55, 56, 57, 97, 98, 99, 100, 101, 102]⟩, .string ⟨#[120]⟩]
theorem daC_cells (w : World) : ∀ i, i < 5 → (w.alloc (.cells daC 9)).cell? ⟨w.heap.size, i, none⟩ = some (.string (daF i)) := fun i hi => by
  have hk : (w.alloc (.cells daC 9)).heap[w.heap.size]? = some (.cells daC 9 (0, 0)) := Deep.blk_alloc_new _ _
  generalize w.alloc (.cells daC 9) = v at *
  match i, hi with
  | 0, _ => simp [World.cell?, hk, daC, daF]
  | 1, _ => simp [World.cell?, hk, daC, daF]
  | 2, _ => simp [World.cell?, hk, daC, daF]
  | 3, _ => simp [World.cell?, hk, daC, daF]
  | 4, _ => simp [World.cell?, hk, daC, daF]
set_option maxRecDepth 100000 in
theorem datum_t (B b : Nat) (a : Option Addr) (len cap A : Nat) (z : Nat → Nat) (hA : A ≤ 100000) (w : World) (h : SrcT w b a len cap A) (hc : Cd w B b a len z) :
    Calls Tryz.prog 31 #[.pointer (some ⟨b, 0, none⟩)] w fun e w' => (∃ s : ByteArray, s.size ≤ 16 ∧ e = .returned (.string s)) ∧ SrcT w' b a len cap (A + 1) ∧ OnlyB b w w' := by
  have hbl := h.lt
  have L : Below w.heap.size w (w.alloc (.cells daC 9)) := (Below.refl _ _).alloc (Nat.le_refl _) _
  have PK : Hid (Calls Tryz.prog 51 #[.pointer (some ⟨b, 0, none⟩), .slice (some ⟨w.heap.size, 0, none⟩) 5 5] (w.alloc (.cells daC 9)) fun e w' => (∃ r : Nat, r < 5 ∧ e = .returned (.string (daF r))) ∧ SrcT w' b a len cap (A + 1) ∧ OnlyB b (w.alloc (.cells daC 9)) w') := pick_t 5 (by omega) (by omega) daF w.heap.size B b a len cap A z hA _ (h.below L) (hc.step (L.mono hc.hw)) (by omega) (daC_cells w)
  have HL : Hid (OnlyB b w (w.alloc (.cells daC 9))) := (OnlyB.refl b w).below L
  clear h hc L
  unfold daC at PK HL
  go_enter Tryz.func31, Tryz.ntmps31
  go_wp2_with fail
  refine PK.out.mono ?_
  rintro e w1 ⟨⟨r, hr, rfl⟩, hs1, ho1⟩
  have HS1 : Hid (SrcT w1 b a len cap (A + 1)) := hs1
  have HO1 : Hid (OnlyB b w w1) := HL.out.trans ho1
  have HD : Hid ((daF r).size ≤ 16) := daF_size r
  clear hs1 ho1 PK HL
  generalize daF r = s at *
  go_wp2
  go_ret
  exact ⟨⟨s, HD.out, rfl⟩, HS1.out, HO1.out⟩
set_option maxRecDepth 100000 in
theorem datumOf_t (a : Option Addr) (len cap : Nat) (z : Nat → Nat) (hz : ∀ i, z i < 256) (hl : len ≤ maxLen) (w : World) (hc : Code8 w a len z) :
    Calls Tryz.prog 12 #[.slice a len cap] w fun e w' => (∃ s : ByteArray, s.size ≤ 16 ∧ e = .returned (.string s)) ∧ Below w.heap.size w w' := by
  have HC : Hid (Code8 w a len z) := hc
  have SR : Hid (Calls Tryz.prog 18 #[.slice a len cap] w fun e w' => e = .returned (.pointer (some ⟨w.heap.size, 0, none⟩)) ∧ Src w' w.heap.size a len cap 0 (len % 1000) ∧ Below w.heap.size w w') := source_any a len cap hl w
  clear hc
  go_enter Tryz.func12, Tryz.ntmps12
  go_wp2_with fail
  refine SR.out.mono ?_
  rintro e w1 ⟨rfl, hs, hb⟩
  have IM : Hid (Calls Tryz.prog 31 #[.pointer (some ⟨w.heap.size, 0, none⟩)] w1 fun e w' => (∃ s : ByteArray, s.size ≤ 16 ∧ e = .returned (.string s)) ∧ SrcT w' w.heap.size a len cap (0 + 1) ∧ OnlyB w.heap.size w1 w') := datum_t w.heap.size w.heap.size a len cap 0 z (by omega) w1 ⟨0, len % 1000, by omega, by omega, hs⟩ (cd_of hz hl HC.out hb (Nat.le_refl _))
  have HB : Hid (Below w.heap.size w w1) := hb
  clear hs hb SR hz hl
  go_wp2_with fail
  refine IM.out.mono ?_
  rintro e w2 ⟨⟨s, hs, rfl⟩, _, ho⟩
  have HD : Hid (s.size ≤ 16) := hs
  have HB2 : Hid (Below w.heap.size w w2) := HB.out.trans (ho.toBelow (Nat.le_refl _) HB.out.size)
  clear hs ho IM
  go_wp2
  go_ret
  exact ⟨⟨s, HD.out, rfl⟩, HB2.out⟩
theorem byte_t (B b : Nat) (a : Option Addr) (len cap A : Nat) (z : Nat → Nat) (hA : A ≤ 100000) (w : World) (h : SrcT w b a len cap A) (hc : Cd w B b a len z) :
    Calls Tryz.prog 63 #[.pointer (some ⟨b, 0, none⟩)] w fun e w' => (∃ r : Nat, r < 256 ∧ e = .returned (.int .i64 (r : Int))) ∧ SrcT w' b a len cap (A + 1) ∧ OnlyB b w w' := by
  obtain ⟨x, y, h1, h2, h3⟩ := h
  refine (byte_any b a len cap x y z hc.hz (by omega) h2 hc.hl hc.sep w h3 hc.hc).mono ?_
  rintro e w' ⟨he, hs, ho⟩
  exact ⟨⟨_, (drawB_lt hc.hz h2).1, he⟩, ⟨x + 1, _, by omega, (drawB_lt hc.hz h2).2, hs⟩, ho⟩
set_option maxRecDepth 100000 in
theorem next_b (n : Nat) (hn : 256 < n) (hn' : n ≤ 100000) (B b : Nat) (a : Option Addr) (len cap A : Nat) (z : Nat → Nat) (hA : A ≤ 10000) (w : World) (h : SrcT w b a len cap A) (hc : Cd w B b a len z) :
    Calls Tryz.prog 41 #[.pointer (some ⟨b, 0, none⟩), .int .i64 (n : Int)] w fun e w' => (∃ r : Nat, r < n ∧ e = .returned (.int .i64 (r : Int))) ∧ SrcT w' b a len cap (A + 3) ∧ OnlyB b w w' := by
  have BY : Hid (∀ (q : Nat) (w : World), q ≤ 3 → SrcT w b a len cap (A + q) → Cd w B b a len z → Calls Tryz.prog 63 #[.pointer (some ⟨b, 0, none⟩)] w fun e w' => (∃ r : Nat, r < 256 ∧ e = .returned (.int .i64 (r : Int))) ∧ SrcT w' b a len cap (A + q + 1) ∧ OnlyB b w w') := fun q w hq h1 h2 => byte_t B b a len cap (A + q) z (by omega) w h1 h2
  have H : Hid (SrcT w b a len cap A) := h
  have HC : Hid (Cd w B b a len z) := hc
  have x1 : ¬ (n : Int) ≤ 1 := by omega
  have x2 : ¬ (n : Int) ≤ 256 := by omega
  have HN : Hid (256 < n) := hn
  clear h hc hn
  go_enter Tryz.func41, Tryz.ntmps41
  go_wp2_with fail
  refine (BY.out 0 _ (by omega) H.out HC.out).mono ?_
  rintro e w1 ⟨⟨x, hx, rfl⟩, hs, ho⟩
  have H1 : Hid (SrcT w1 b a len cap (A + 1)) := hs
  have C1 : Hid (Cd w1 B b a len z) := HC.out.only ho
  have O1 : Hid (OnlyB b w w1) := ho
  have HX : Hid (x < 256) := hx
  clear hs ho hx H HC
  go_wp2_with fail
  refine (BY.out 1 _ (by omega) H1.out C1.out).mono ?_
  rintro e w2 ⟨⟨y, hy, rfl⟩, hs, ho⟩
  have H2 : Hid (SrcT w2 b a len cap (A + 2)) := hs
  have C2 : Hid (Cd w2 B b a len z) := C1.out.only ho
  have O2 : Hid (OnlyB b w w2) := O1.out.trans ho
  have HY : Hid (y < 256) := hy
  clear hs ho hy H1 C1 O1
  go_wp2_with fail
  refine (BY.out 2 _ (by omega) H2.out C2.out).mono ?_
  rintro e w3 ⟨⟨t, ht, rfl⟩, hs, ho⟩
  have H3 : Hid (SrcT w3 b a len cap (A + 3)) := hs
  have O3 : Hid (OnlyB b w w3) := O2.out.trans ho
  have HXo := HX.out
  have HYo := HY.out
  have HNo := HN.out
  obtain ⟨V1, hV1⟩ : ∃ v, v = x * 65536 := ⟨_, rfl⟩
  obtain ⟨V2, hV2⟩ : ∃ v, v = y * 256 := ⟨_, rfl⟩
  obtain ⟨V3, hV3⟩ : ∃ v, v = V1 + V2 := ⟨_, rfl⟩
  obtain ⟨V4, hV4⟩ : ∃ v, v = V3 + t := ⟨_, rfl⟩
  obtain ⟨R, hR⟩ : ∃ v, v = V4 % n := ⟨_, rfl⟩
  have b1 : V1 ≤ 16777216 := by omega
  have b2 : V2 ≤ 65536 := by omega
  have f1 : (x : Int) * 65536 = (V1 : Int) := by omega
  have f2 : (y : Int) * 256 = (V2 : Int) := by omega
  clear hV1 hV2
  have b3 : V3 ≤ 16842752 := by omega
  have b4 : V4 ≤ 16843008 := by omega
  have f3 : (V1 : Int) + (V2 : Int) = (V3 : Int) := by omega
  have f4 : (V3 : Int) + (t : Int) = (V4 : Int) := by omega
  have em : (V4 : Int).tmod (n : Int) = (R : Int) := by rw [hR]; exact (Int.ofNat_tmod _ n).symm
  have lt : R < n := by rw [hR]; exact Nat.mod_lt _ (by omega)
  clear hV3 hV4 hR
  have w1 : IntKind.i64.wrap (V1 : Int) = (V1 : Int) := IntWalk.i64_in _ (by omega)
  have w2 : IntKind.i64.wrap (V2 : Int) = (V2 : Int) := IntWalk.i64_in _ (by omega)
  have w3 : IntKind.i64.wrap (V3 : Int) = (V3 : Int) := IntWalk.i64_in _ (by omega)
  have w4 : IntKind.i64.wrap (V4 : Int) = (V4 : Int) := IntWalk.i64_in _ (by omega)
  have wr : IntKind.i64.wrap (R : Int) = (R : Int) := IntWalk.i64_in _ (by omega)
  have hn0 : ((n : Int) == 0) = false := by rw [beq_eq_false_iff_ne]; omega
  have HR : Hid (R < n) := lt
  clear hs ho ht H2 C2 O2 BY b1 b2 b3 b4 HXo HYo HNo lt HX HY HN
  go_wp2
  go_ret
  exact ⟨⟨R, HR.out, rfl⟩, H3.out, O3.out⟩
def RetSuN (B : Nat) (w : World) (e : Ending) : Prop := ∃ (z : Nat) (P : Nat → Plc) (r : ByteArray) (a : Option Addr) (c : Nat), 1 ≤ z ∧ z ≤ 300 ∧ r.size = 32 ∧ e = .returned (.agg #[.int .i64 (z : Int), .slice a (pcsN z) c, .string r]) ∧ EO w B 36 2 (.slice a (pcsN z) c) (pcsN z) (pcF P)
set_option maxRecDepth 100000 in
set_option maxHeartbeats 8000000 in
theorem super_t (B b : Nat) (a : Option Addr) (len cap : Nat) (z : Nat → Nat) (w : World) (h : SrcT w b a len cap 0) (hc : Cd w B b a len z) :
    Calls Tryz.prog 19 #[.pointer (some ⟨b, 0, none⟩)] w fun e w' => RetSuN w.heap.size w' e ∧ OnlyB b w w' := by
  have hbw := h.lt
  have W1 : Below w.heap.size w (w.alloc (.cells #[.int .i64 0, .slice none 0 0, .string ⟨#[]⟩] 25)) := (Below.refl _ _).alloc (Nat.le_refl _) _
  have X0 : Hid (Box3 (w.alloc (.cells #[.int .i64 0, .slice none 0 0, .string ⟨#[]⟩] 25)) w.heap.size 25 (.int .i64 0) (.slice none 0 0) (.string ⟨#[]⟩)) := Box3.made _ _ _ _ _
  have SS : Hid (SrcT (w.alloc (.cells #[.int .i64 0, .slice none 0 0, .string ⟨#[]⟩] 25)) b a len cap 0) := h.below W1
  have SC : Hid (Cd (w.alloc (.cells #[.int .i64 0, .slice none 0 0, .string ⟨#[]⟩] 25)) B b a len z) := hc.step (W1.mono hc.hw)
  have HO : Hid (OnlyB b w (w.alloc (.cells #[.int .i64 0, .slice none 0 0, .string ⟨#[]⟩] 25))) := (OnlyB.refl _ _).below W1
  have HV : Hid (w.heap.size < (w.alloc (.cells #[.int .i64 0, .slice none 0 0, .string ⟨#[]⟩] 25)).heap.size) := by show _ < _; simp
  have NB : Hid (∀ w : World, SrcT w b a len cap 0 → Cd w B b a len z → Calls Tryz.prog 41 #[.pointer (some ⟨b, 0, none⟩), .int .i64 300] w fun e w' => (∃ r : Nat, r < 300 ∧ e = .returned (.int .i64 (r : Int))) ∧ SrcT w' b a len cap (0 + 3) ∧ OnlyB b w w') := fun w h hc => next_b 300 (by omega) (by omega) B b a len cap 0 z (by omega) w h hc
  have N3 : Hid (∀ (A : Nat) (w : World), A ≤ 1000 → SrcT w b a len cap A → Cd w B b a len z → Calls Tryz.prog 41 #[.pointer (some ⟨b, 0, none⟩), .int .i64 3] w fun e w' => (∃ r : Nat, r < 3 ∧ e = .returned (.int .i64 (r : Int))) ∧ SrcT w' b a len cap (A + 1) ∧ OnlyB b w w') := fun A w hA h hc => next_t 3 (by omega) (by omega) B b a len cap A z (by omega) w h hc
  have N9 : Hid (∀ (A : Nat) (w : World), A ≤ 1000 → SrcT w b a len cap A → Cd w B b a len z → Calls Tryz.prog 41 #[.pointer (some ⟨b, 0, none⟩), .int .i64 9] w fun e w' => (∃ r : Nat, r < 9 ∧ e = .returned (.int .i64 (r : Int))) ∧ SrcT w' b a len cap (A + 1) ∧ OnlyB b w w') := fun A w hA h hc => next_t 9 (by omega) (by omega) B b a len cap A z (by omega) w h hc
  have RX : Hid (∀ w : World, SrcT w b a len cap 3 → Cd w B b a len z → Calls Tryz.prog 42 #[.pointer (some ⟨b, 0, none⟩)] w fun e w' => Ret32 e ∧ SrcT w' b a len cap (3 + 1) ∧ OnlyB b w w') := fun w h hc => root_t B b a len cap 3 z (by omega) w h hc
  have HBW : Hid (b < w.heap.size) := hbw
  clear h hc W1 hbw
  go_enter Tryz.func19, Tryz.ntmps19
  go_wp2_with fail
  generalize (w.alloc (.cells #[.int .i64 0, .slice none 0 0, .string ⟨#[]⟩] 25)) = v0 at *
  refine (NB.out _ SS.out SC.out).mono ?_
  rintro e w1 ⟨⟨r0, hr0, rfl⟩, hs, ho⟩
  replace X0 : Hid (Box3 w1 w.heap.size 25 (.int .i64 0) (.slice none 0 0) (.string ⟨#[]⟩)) := X0.out.ofBlock (ho.block _ X0.out.lt (by have := HBW.out; omega))
  replace SS : Hid (SrcT w1 b a len cap 3) := hs
  replace SC : Hid (Cd w1 B b a len z) := SC.out.only ho
  replace HO : Hid (OnlyB b w w1) := HO.out.trans ho
  replace HV : Hid (w.heap.size < w1.heap.size) := Nat.lt_of_lt_of_le HV.out ho.size
  obtain ⟨zn, hzn⟩ : ∃ x, x = 1 + r0 := ⟨_, rfl⟩
  have e1 : (1 : Int) + (r0 : Int) = (zn : Int) := by omega
  have wz : IntKind.i64.wrap (zn : Int) = (zn : Int) := IntWalk.i64_in _ (by omega)
  have ZB : Hid (1 ≤ zn ∧ zn ≤ 300) := by show _ ∧ _; omega
  clear hs ho NB hr0 hzn
  go_wp2_with fail
  refine (RX.out _ SS.out SC.out).mono ?_
  rintro e w2 ⟨⟨hh, h32, rfl⟩, hs, ho⟩
  replace X0 : Hid (Box3 w2 w.heap.size 25 (.int .i64 0) (.slice none 0 0) (.string ⟨#[]⟩)) := X0.out.ofBlock (ho.block _ X0.out.lt (by have := HBW.out; omega))
  replace SC : Hid (Cd w2 B b a len z) := SC.out.only ho
  replace HO : Hid (OnlyB b w w2) := HO.out.trans ho
  replace HV : Hid (w.heap.size < w2.heap.size) := Nat.lt_of_lt_of_le HV.out ho.size
  have hb : Below w2.heap.size w2 (w2.alloc (.cells #[.int .i64 (zn : Int), .slice none 0 0, .string hh] 25)) := (Below.refl _ _).alloc (Nat.le_refl _) _
  have XS : Hid (Box3 (w2.alloc (.cells #[.int .i64 (zn : Int), .slice none 0 0, .string hh] 25)) w2.heap.size 25 (.int .i64 (zn : Int)) (.slice none 0 0) (.string hh)) := Box3.made _ _ _ _ _
  replace X0 : Hid (Box3 (w2.alloc (.cells #[.int .i64 (zn : Int), .slice none 0 0, .string hh] 25)) w.heap.size 25 (.int .i64 0) (.slice none 0 0) (.string ⟨#[]⟩)) := X0.out.below hb
  replace SS : Hid (SrcT (w2.alloc (.cells #[.int .i64 (zn : Int), .slice none 0 0, .string hh] 25)) b a len cap 4) := hs.below hb
  replace SC : Hid (Cd (w2.alloc (.cells #[.int .i64 (zn : Int), .slice none 0 0, .string hh] 25)) B b a len z) := SC.out.step (hb.mono SC.out.hw)
  replace HO : Hid (OnlyB b w (w2.alloc (.cells #[.int .i64 (zn : Int), .slice none 0 0, .string hh] 25))) := HO.out.below hb
  have H32 : Hid (hh.size = 32) := h32
  clear hs ho RX hb h32
  go_wp2
  generalize (w2.alloc (.cells #[.int .i64 (zn : Int), .slice none 0 0, .string hh] 25)) = v2 at *
  generalize w2.heap.size = sb at *
  obtain ⟨n, hn⟩ : ∃ n, n = pcsN zn := ⟨_, rfl⟩
  have CT : Hid (∀ w : World, Calls Tryz.prog 43 #[.int .i64 (zn : Int)] w fun e w' => e = .returned (.int .i64 (n : Int)) ∧ w = w') := fun w => by rw [hn]; exact l12Count_any zn (by have := ZB.out; omega) w
  have HN : Hid (n = pcsN zn) := hn
  have n16 : n ≤ 16 := by have := ZB.out; rw [hn]; unfold pcsN; omega
  have nI : (n : Int) ≤ 16 := by omega
  clear hn
  go_loopw [4] (fun i wr => ∃ (k : Nat) (v0 : Value) (P : Nat → Plc), k ≤ n ∧ i = .int .i64 k ∧ Box3 wr w.heap.size 25 (.int .i64 0) (.slice none 0 0) (.string ⟨#[]⟩) ∧ Box3 wr sb 25 (.int .i64 (zn : Int)) v0 (.string hh) ∧ EO wr w.heap.size 36 2 v0 k (pcF P) ∧ SrcT wr b a len cap (4 + 2 * k) ∧ Cd wr B b a len z ∧ OnlyB b w wr) (fun i _ => n - (intOf i).toNat)
  case atStart => exact ⟨0, .slice none 0 0, fun _ => pcZ, by omega, rfl, X0.out, XS.out, EO.nil _ _ _ _ _, SS.out, SC.out, HO.out⟩
  case round =>
    clear X0 XS SS SC HO
    obtain ⟨k, v0, P, hk, rfl, X0, XS, RV, SS, SC, HO⟩ := hrel
    replace X0 : Hid (Box3 wr w.heap.size 25 (.int .i64 0) (.slice none 0 0) (.string ⟨#[]⟩)) := X0
    replace XS : Hid (Box3 wr sb 25 (.int .i64 (zn : Int)) v0 (.string hh)) := XS
    replace RV : Hid (EO wr w.heap.size 36 2 v0 k (pcF P)) := RV
    replace SS : Hid (SrcT wr b a len cap (4 + 2 * k)) := SS
    replace SC : Hid (Cd wr B b a len z) := SC
    replace HO : Hid (OnlyB b w wr) := HO
    have c0 := XS.out.c0
    go_wp2_with fail
    refine (CT.out _).mono ?_
    rintro e _ ⟨rfl, rfl⟩
    clear c0
    by_cases hlt : k < n
    · have hlt' : (k : Int) < (n : Int) := by omega
      have kk0 : (0 : Int) ≤ (k : Int) := by omega
      have HK : Hid (k < n ∧ n ≤ 16) := ⟨hlt, n16⟩
      obtain ⟨K5, hK5⟩ : ∃ x, x = k * 5 := ⟨_, rfl⟩
      obtain ⟨K3, hK3⟩ : ∃ x, x = 3 * k := ⟨_, rfl⟩
      obtain ⟨K7, hK7⟩ : ∃ x, x = K3 % 7 := ⟨_, rfl⟩
      have f5 : (k : Int) * 5 = (K5 : Int) := by omega
      have f3 : (3 : Int) * (k : Int) = (K3 : Int) := by omega
      have f7 : (K3 : Int).tmod 7 = (K7 : Int) := by rw [hK7]; exact (Int.ofNat_tmod _ 7).symm
      have g7 : (K3 : Int) % 7 = (K7 : Int) := by omega
      have w5 : IntKind.i64.wrap (K5 : Int) = (K5 : Int) := IntWalk.i64_in _ (by omega)
      have w3 : IntKind.i64.wrap (K3 : Int) = (K3 : Int) := IntWalk.i64_in _ (by omega)
      have w7 : IntKind.i64.wrap (K7 : Int) = (K7 : Int) := IntWalk.i64_in _ (by omega)
      have KB : Hid (K5 ≤ 80 ∧ K7 < 7) := by show _ ∧ _; omega
      have hbd : Below wr.heap.size wr wr.drew := (Below.refl _ _).drew
      have X0d : Hid (Box3 wr.drew w.heap.size 25 (.int .i64 0) (.slice none 0 0) (.string ⟨#[]⟩)) := X0.out.below hbd
      have XSd : Hid (Box3 wr.drew sb 25 (.int .i64 (zn : Int)) v0 (.string hh)) := XS.out.below hbd
      have RVd : Hid (EO wr.drew w.heap.size 36 2 v0 k (pcF P)) := RV.out.below hbd
      have SSd : Hid (SrcT wr.drew b a len cap (4 + 2 * k)) := SS.out.below hbd
      have SCd : Hid (Cd wr.drew B b a len z) := SC.out.step (hbd.mono SC.out.hw)
      have HOd : Hid (OnlyB b w wr.drew) := HO.out.below hbd
      clear X0 XS RV SS SC HO hlt hk hbd hK5 hK3 hK7 n16
      have X0 : Hid (Box3 wr.drew w.heap.size 25 (.int .i64 0) (.slice none 0 0) (.string ⟨#[]⟩)) := X0d.out
      have XS : Hid (Box3 wr.drew sb 25 (.int .i64 (zn : Int)) v0 (.string hh)) := XSd.out
      have RV : Hid (EO wr.drew w.heap.size 36 2 v0 k (pcF P)) := RVd.out
      have SS : Hid (SrcT wr.drew b a len cap (4 + 2 * k)) := SSd.out
      have SC : Hid (Cd wr.drew B b a len z) := SCd.out
      clear X0d XSd RVd SSd SCd
      go_wp2_with fail
      have H : OnlyB b w wr.drew := HOd.out
      refine wp_region_noPanic ?_
      refine wp_region_held_drew (S := fun w' => OnlyB b w w') (by kernel_rfl) H (fun _ => ?_)
      generalize wr.drew = y0 at *
      refine wpAnyH_take (i := 0) (v := .pointer (some ⟨sb, 1, none⟩)) rfl (by kernel_rfl) (by kernel_rfl) (by kernel_rfl) (fun _ _ _ h => h) (Or.inl ⟨by rfl, ?_⟩) H ?_
      · intro w' hSw; clear hSw; go_simp
      change wpAnyH _ _ _ _ _ _ _ { tmps := #[_,_,_,_,_,_,_,_,_,_,_,_,_,_,_,_,_,_,_,_,_,_,_,_,_,_,_,_,_,_,_,_,_,_,_,_,_,_,_], defers := _ } _
      refine wpAnyH_take (i := 2) (v := .int .i64 (k : Int)) rfl (by kernel_rfl) (by kernel_rfl) (by kernel_rfl) (fun _ _ _ h => h) (Or.inl ⟨by rfl, ?_⟩) H ?_
      · intro w' hSw; clear hSw; go_simp
      change wpAnyH _ _ _ _ _ _ _ { tmps := #[_,_,_,_,_,_,_,_,_,_,_,_,_,_,_,_,_,_,_,_,_,_,_,_,_,_,_,_,_,_,_,_,_,_,_,_,_,_,_], defers := _ } _
      refine wpAnyH_take (i := 3) (v := .int .i64 (K5 : Int)) rfl (by kernel_rfl) (by kernel_rfl) (by kernel_rfl) (fun _ _ _ h => h) (Or.inl ⟨by rfl, ?_⟩) H ?_
      · intro w' hSw; clear hSw; go_simp
      change wpAnyH _ _ _ _ _ _ _ { tmps := #[_,_,_,_,_,_,_,_,_,_,_,_,_,_,_,_,_,_,_,_,_,_,_,_,_,_,_,_,_,_,_,_,_,_,_,_,_,_,_], defers := _ } _
      refine wpAnyH_take (i := 4) (v := .pointer (some ⟨b, 0, none⟩)) rfl (by kernel_rfl) (by kernel_rfl) (by kernel_rfl) (fun _ _ _ h => h) (Or.inl ⟨by rfl, ?_⟩) H ?_
      · intro w' hSw; clear hSw; go_simp
      change wpAnyH _ _ _ _ _ _ _ { tmps := #[_,_,_,_,_,_,_,_,_,_,_,_,_,_,_,_,_,_,_,_,_,_,_,_,_,_,_,_,_,_,_,_,_,_,_,_,_,_,_], defers := _ } _
      refine wpAnyH_take (i := 9) (v := .int .i64 (k : Int)) rfl (by kernel_rfl) (by kernel_rfl) (by kernel_rfl) (fun _ _ _ h => h) (Or.inl ⟨by rfl, ?_⟩) H ?_
      · intro w' hSw; clear hSw; go_simp
      change wpAnyH _ _ _ _ _ _ _ { tmps := #[_,_,_,_,_,_,_,_,_,_,_,_,_,_,_,_,_,_,_,_,_,_,_,_,_,_,_,_,_,_,_,_,_,_,_,_,_,_,_], defers := _ } _
      refine wpAnyH_take (i := 10) (v := .int .i64 (K3 : Int)) rfl (by kernel_rfl) (by kernel_rfl) (by kernel_rfl) (fun _ _ _ h => h) (Or.inl ⟨by rfl, ?_⟩) H ?_
      · intro w' hSw; clear hSw; go_simp
      change wpAnyH _ _ _ _ _ _ _ { tmps := #[_,_,_,_,_,_,_,_,_,_,_,_,_,_,_,_,_,_,_,_,_,_,_,_,_,_,_,_,_,_,_,_,_,_,_,_,_,_,_], defers := _ } _
      refine wpAnyH_take (i := 11) (v := .int .i64 (K7 : Int)) rfl (by kernel_rfl) (by kernel_rfl) (by kernel_rfl) (fun _ _ _ h => h) (Or.inl ⟨by rfl, ?_⟩) H ?_
      · intro w' hSw; clear hSw; go_simp
      change wpAnyH _ _ _ _ _ _ _ { tmps := #[_,_,_,_,_,_,_,_,_,_,_,_,_,_,_,_,_,_,_,_,_,_,_,_,_,_,_,_,_,_,_,_,_,_,_,_,_,_,_], defers := _ } _
      refine wpAnyH_take (i := 13) (v := .pointer (some ⟨b, 0, none⟩)) rfl (by kernel_rfl) (by kernel_rfl) (by kernel_rfl) (fun _ _ _ h => h) (Or.inl ⟨by rfl, ?_⟩) H ?_
      · intro w' hSw; clear hSw; go_simp
      change wpAnyH _ _ _ _ _ _ _ { tmps := #[_,_,_,_,_,_,_,_,_,_,_,_,_,_,_,_,_,_,_,_,_,_,_,_,_,_,_,_,_,_,_,_,_,_,_,_,_,_,_], defers := _ } _
      refine wpAnyH_ready (rs := [1, 5]) (by kernel_rfl) (by simp) ?_
      refine (AllReadyH.cons rfl (fun KK hK => ?_) (AllReadyH.cons rfl (fun KK hK => ?_) AllReadyH.nil))
      · skip
        have c1 := XS.out.c1
        go_simp
        refine hK.out _ _ H (fun _ => ?_)
        clear hK KK
        change wpAnyH _ _ _ _ _ _ _ { tmps := #[_,_,_,_,_,_,_,_,_,_,_,_,_,_,_,_,_,_,_,_,_,_,_,_,_,_,_,_,_,_,_,_,_,_,_,_,_,_,_], defers := _ } _
        refine wpAnyH_ready (rs := [5]) (by kernel_rfl) (by simp) ?_
        refine (AllReadyH.cons rfl (fun KK hK => ?_) AllReadyH.nil)
        go_simp
        refine (N3.out (4 + 2 * k) _ (by have := HK.out; omega) SS.out SC.out).mono ?_
        rintro e y1 ⟨⟨r1, hr1, rfl⟩, hs, ho⟩
        replace X0 : Hid (Box3 y1 w.heap.size 25 (.int .i64 0) (.slice none 0 0) (.string ⟨#[]⟩)) := X0.out.ofBlock (ho.block _ X0.out.lt (by have := HBW.out; omega))
        replace RV : Hid (EO y1 w.heap.size 36 2 v0 k (pcF P)) := RV.out.onlyB ho HBW.out
        replace XS : Hid (Box3 y1 sb 25 (.int .i64 (zn : Int)) v0 (.string hh)) := XS.out.ofBlock (ho.block _ XS.out.lt (by have := HBW.out; have := HV.out; omega))
        replace SS : Hid (SrcT y1 b a len cap (4 + 2 * k + 1)) := hs
        replace SC : Hid (Cd y1 B b a len z) := SC.out.only ho
        replace H : OnlyB b w y1 := H.trans ho
        obtain ⟨M1, hM1⟩ : ∃ x, x = K5 + r1 := ⟨_, rfl⟩
        obtain ⟨M2, hM2⟩ : ∃ x, x = M1 % 40 := ⟨_, rfl⟩
        obtain ⟨M3, hM3⟩ : ∃ x, x = 2 + M2 := ⟨_, rfl⟩
        obtain ⟨M4, hM4⟩ : ∃ x, x = M3 + K7 := ⟨_, rfl⟩
        have q0 := KB.out
        have m1 : (K5 : Int) + (r1 : Int) = (M1 : Int) := by omega
        have m2 : (M1 : Int).tmod 40 = (M2 : Int) := by rw [hM2]; exact (Int.ofNat_tmod _ 40).symm
        have m2' : (M1 : Int) % 40 = (M2 : Int) := by omega
        have m3 : (2 : Int) + (M2 : Int) = (M3 : Int) := by omega
        have m4 : (M3 : Int) + (K7 : Int) = (M4 : Int) := by omega
        have u1 : IntKind.i64.wrap (M1 : Int) = (M1 : Int) := IntWalk.i64_in _ (by omega)
        have u2 : IntKind.i64.wrap (M2 : Int) = (M2 : Int) := IntWalk.i64_in _ (by omega)
        have u3 : IntKind.i64.wrap (M3 : Int) = (M3 : Int) := IntWalk.i64_in _ (by omega)
        have u4 : IntKind.i64.wrap (M4 : Int) = (M4 : Int) := IntWalk.i64_in _ (by omega)
        clear hs ho hr1 hM1 hM2 hM3 hM4 q0
        refine hK.out _ _ H (fun _ => ?_)
        clear hK KK
        change wpAnyH _ _ _ _ _ _ _ { tmps := #[_,_,_,_,_,_,_,_,_,_,_,_,_,_,_,_,_,_,_,_,_,_,_,_,_,_,_,_,_,_,_,_,_,_,_,_,_,_,_], defers := _ } _
        refine wpAnyH_take (i := 6) (v := .int .i64 (M1 : Int)) rfl (by kernel_rfl) (by kernel_rfl) (by kernel_rfl) (fun _ _ _ h => h) (Or.inl ⟨by rfl, ?_⟩) H ?_
        · intro w' hSw; clear hSw; go_simp
        change wpAnyH _ _ _ _ _ _ _ { tmps := #[_,_,_,_,_,_,_,_,_,_,_,_,_,_,_,_,_,_,_,_,_,_,_,_,_,_,_,_,_,_,_,_,_,_,_,_,_,_,_], defers := _ } _
        refine wpAnyH_take (i := 7) (v := .int .i64 (M2 : Int)) rfl (by kernel_rfl) (by kernel_rfl) (by kernel_rfl) (fun _ _ _ h => h) (Or.inl ⟨by rfl, ?_⟩) H ?_
        · intro w' hSw; clear hSw; go_simp
        change wpAnyH _ _ _ _ _ _ _ { tmps := #[_,_,_,_,_,_,_,_,_,_,_,_,_,_,_,_,_,_,_,_,_,_,_,_,_,_,_,_,_,_,_,_,_,_,_,_,_,_,_], defers := _ } _
        refine wpAnyH_take (i := 8) (v := .int .i64 (M3 : Int)) rfl (by kernel_rfl) (by kernel_rfl) (by kernel_rfl) (fun _ _ _ h => h) (Or.inl ⟨by rfl, ?_⟩) H ?_
        · intro w' hSw; clear hSw; go_simp
        change wpAnyH _ _ _ _ _ _ _ { tmps := #[_,_,_,_,_,_,_,_,_,_,_,_,_,_,_,_,_,_,_,_,_,_,_,_,_,_,_,_,_,_,_,_,_,_,_,_,_,_,_], defers := _ } _
        refine wpAnyH_take (i := 12) (v := .int .i64 (M4 : Int)) rfl (by kernel_rfl) (by kernel_rfl) (by kernel_rfl) (fun _ _ _ h => h) (Or.inl ⟨by rfl, ?_⟩) H ?_
        · intro w' hSw; clear hSw; go_simp
        change wpAnyH _ _ _ _ _ _ _ { tmps := #[_,_,_,_,_,_,_,_,_,_,_,_,_,_,_,_,_,_,_,_,_,_,_,_,_,_,_,_,_,_,_,_,_,_,_,_,_,_,_], defers := _ } _
        refine wpAnyH_ready (rs := [14]) (by kernel_rfl) (by simp) ?_
        refine (AllReadyH.cons rfl (fun KK hK => ?_) AllReadyH.nil)
        go_simp
        refine (N9.out (4 + 2 * k + 1) _ (by have := HK.out; omega) SS.out SC.out).mono ?_
        rintro e y2 ⟨⟨r2, hr2, rfl⟩, hs, ho⟩
        replace X0 : Hid (Box3 y2 w.heap.size 25 (.int .i64 0) (.slice none 0 0) (.string ⟨#[]⟩)) := X0.out.ofBlock (ho.block _ X0.out.lt (by have := HBW.out; omega))
        replace RV : Hid (EO y2 w.heap.size 36 2 v0 k (pcF P)) := RV.out.onlyB ho HBW.out
        replace XS : Hid (Box3 y2 sb 25 (.int .i64 (zn : Int)) v0 (.string hh)) := XS.out.ofBlock (ho.block _ XS.out.lt (by have := HBW.out; have := HV.out; omega))
        replace SS : Hid (SrcT y2 b a len cap (4 + 2 * k + 1 + 1)) := hs
        replace SC : Hid (Cd y2 B b a len z) := SC.out.only ho
        replace H : OnlyB b w y2 := H.trans ho
        obtain ⟨V2, hV2⟩ : ∃ x, x = 1 + r2 := ⟨_, rfl⟩
        have v2 : (1 : Int) + (r2 : Int) = (V2 : Int) := by omega
        have u5 : IntKind.i64.wrap (V2 : Int) = (V2 : Int) := IntWalk.i64_in _ (by omega)
        clear hs ho hr2 hV2
        refine hK.out _ _ H (fun _ => ?_)
        clear hK KK
        change wpAnyH _ _ _ _ _ _ _ { tmps := #[_,_,_,_,_,_,_,_,_,_,_,_,_,_,_,_,_,_,_,_,_,_,_,_,_,_,_,_,_,_,_,_,_,_,_,_,_,_,_], defers := _ } _
        refine wpAnyH_take (i := 15) (v := .int .i64 (V2 : Int)) rfl (by kernel_rfl) (by kernel_rfl) (by kernel_rfl) (fun _ _ _ h => h) (Or.inl ⟨by rfl, ?_⟩) H ?_
        · intro w' hSw; clear hSw; go_simp
        change wpAnyH _ _ _ _ _ _ _ { tmps := #[_,_,_,_,_,_,_,_,_,_,_,_,_,_,_,_,_,_,_,_,_,_,_,_,_,_,_,_,_,_,_,_,_,_,_,_,_,_,_], defers := _ } _
        refine wpAnyH_take (i := 16) (v := .agg #[.int .i64 (M4 : Int), .int .i64 (V2 : Int)]) rfl (by kernel_rfl) (by kernel_rfl) (by kernel_rfl) (fun _ _ _ h => h) (Or.inl ⟨by rfl, ?_⟩) H ?_
        · intro w' hSw; clear hSw; go_simp
        change wpAnyH _ _ _ _ _ _ _ { tmps := #[_,_,_,_,_,_,_,_,_,_,_,_,_,_,_,_,_,_,_,_,_,_,_,_,_,_,_,_,_,_,_,_,_,_,_,_,_,_,_], defers := _ } _
        refine wpAnyH_ready (rs := [17]) (by kernel_rfl) (by simp) ?_
        refine (AllReadyH.cons rfl (fun KK hK => ?_) AllReadyH.nil)
        go_simp
        have hb : Below y2.heap.size y2 (y2.alloc (.cells #[.int .i64 (M4 : Int), .int .i64 (V2 : Int)] 36)) := (Below.refl _ _).alloc (Nat.le_refl _) _
        have LB : Hid (Box2 (y2.alloc (.cells #[.int .i64 (M4 : Int), .int .i64 (V2 : Int)] 36)) y2.heap.size 36 (.int .i64 (M4 : Int)) (.int .i64 (V2 : Int))) := Box2.made _ _ _ _
        replace X0 : Hid (Box3 (y2.alloc (.cells #[.int .i64 (M4 : Int), .int .i64 (V2 : Int)] 36)) w.heap.size 25 (.int .i64 0) (.slice none 0 0) (.string ⟨#[]⟩)) := X0.out.below hb
        replace XS : Hid (Box3 (y2.alloc (.cells #[.int .i64 (M4 : Int), .int .i64 (V2 : Int)] 36)) sb 25 (.int .i64 (zn : Int)) v0 (.string hh)) := XS.out.below hb
        replace RV : Hid (EO (y2.alloc (.cells #[.int .i64 (M4 : Int), .int .i64 (V2 : Int)] 36)) w.heap.size 36 2 v0 k (pcF P)) := RV.out.below hb
        replace SS : Hid (SrcT (y2.alloc (.cells #[.int .i64 (M4 : Int), .int .i64 (V2 : Int)] 36)) b a len cap (4 + 2 * k + 1 + 1)) := SS.out.below hb
        replace SC : Hid (Cd (y2.alloc (.cells #[.int .i64 (M4 : Int), .int .i64 (V2 : Int)] 36)) B b a len z) := SC.out.step (hb.mono SC.out.hw)
        replace H : OnlyB b w (y2.alloc (.cells #[.int .i64 (M4 : Int), .int .i64 (V2 : Int)] 36)) := H.below hb
        clear hb
        generalize (y2.alloc (.cells #[.int .i64 (M4 : Int), .int .i64 (V2 : Int)] 36)) = y3 at *
        generalize y2.heap.size = lb at *
        refine hK.out _ _ H (fun _ => ?_)
        clear hK KK
        change wpAnyH _ _ _ _ _ _ _ { tmps := #[_,_,_,_,_,_,_,_,_,_,_,_,_,_,_,_,_,_,_,_,_,_,_,_,_,_,_,_,_,_,_,_,_,_,_,_,_,_,_], defers := _ } _
        refine wpAnyH_ready (rs := [18]) (by kernel_rfl) (by simp) ?_
        refine (AllReadyH.cons rfl (fun KK hK => ?_) AllReadyH.nil)
        obtain ⟨nv, y4, hr5, hE5, hg5, hl5⟩ := appPlc y3 w.heap.size v0 k lb P (⟨(M4 : Int), (V2 : Int)⟩ : Plc) H.size (by have := HK.out; omega) RV.out (fun j hj => by
            rw [Nat.zero_add]
            rcases (show j = 0 ∨ j = 1 by omega) with rfl | rfl
            · exact LB.out.c0
            · exact LB.out.c1)
        obtain ⟨na, nc, rfl⟩ := hE5.form
        have ob1 := RV.out.notBox3 X0.out
        have ob2 := RV.out.notBox3 XS.out
        have BW : Below w.heap.size y3 y4 := (Below.refl _ _).grown hg5 H.size (fun y hy => (RV.out.ge y hy).1)
        replace H : OnlyB b w y4 := H.belowAt BW
        replace X0 : Hid (Box3 y4 w.heap.size 25 (.int .i64 0) (.slice none 0 0) (.string ⟨#[]⟩)) := X0.out.ofBlock (hg5.block _ X0.out.lt (fun e => ob1 _ e.symm rfl))
        replace XS : Hid (Box3 y4 sb 25 (.int .i64 (zn : Int)) v0 (.string hh)) := XS.out.ofBlock (hg5.block _ XS.out.lt (fun e => ob2 _ e.symm rfl))
        replace SS : Hid (SrcT y4 b a len cap (4 + 2 * k + 1 + 1)) := SS.out.ofBlock (BW.block b HBW.out)
        replace SC : Hid (Cd y4 B b a len z) := SC.out.step (BW.mono (by have := SC.out.hb; have := HBW.out; omega))
        have RV2 : Hid (EO y4 w.heap.size 36 2 (.slice na (k + 1) nc) (k + 1) (pcF (updE P k (⟨(M4 : Int), (V2 : Int)⟩ : Plc)))) := hE5
        clear hE5 hg5 hl5 ob1 ob2 RV LB BW
        rw [if_pos (by rfl)]
        refine Lib.wp_append_run _ (.tmp 19) (.tmp 35) 23 23 rfl v0 (.slice (some ⟨lb, 0, none⟩) 1 1) rfl rfl _ _ (hr5 _) ?_
        refine hK.out _ _ H (fun _ => ?_)
        clear hK KK
        change wpAnyH _ _ _ _ _ _ _ { tmps := #[_,_,_,_,_,_,_,_,_,_,_,_,_,_,_,_,_,_,_,_,_,_,_,_,_,_,_,_,_,_,_,_,_,_,_,_,_,_,_], defers := _ } _
        refine wpAnyH_take (i := 19) (v := .pointer (some ⟨sb, 1, none⟩)) rfl (by kernel_rfl) (by kernel_rfl) (by kernel_rfl) (fun _ _ _ h => h) (Or.inl ⟨by rfl, ?_⟩) H ?_
        · intro w' hSw; clear hSw; go_simp
        change wpAnyH _ _ _ _ _ _ _ { tmps := #[_,_,_,_,_,_,_,_,_,_,_,_,_,_,_,_,_,_,_,_,_,_,_,_,_,_,_,_,_,_,_,_,_,_,_,_,_,_,_], defers := _ } _
        refine wpAnyH_ready (rs := [20]) (by kernel_rfl) (by simp) ?_
        refine (AllReadyH.cons rfl (fun KK hK => ?_) AllReadyH.nil)
        have c1 := XS.out.c1
        have f1 := XS.out.fr 1
        go_simp
        have ob2 := RV2.out.notBox3 XS.out
        have XS2 : Hid (Box3 (y4.setCell ⟨sb, 1, none⟩ (.slice na (k + 1) nc)) sb 25 (.int .i64 (zn : Int)) (.slice na (k + 1) nc) (.string hh)) := XS.out.set1 _
        replace X0 : Hid (Box3 (y4.setCell ⟨sb, 1, none⟩ (.slice na (k + 1) nc)) w.heap.size 25 (.int .i64 0) (.slice none 0 0) (.string ⟨#[]⟩)) := X0.out.other (by show w.heap.size ≠ sb; have := HV.out; omega) _
        replace RV2 : Hid (EO (y4.setCell ⟨sb, 1, none⟩ (.slice na (k + 1) nc)) w.heap.size 36 2 (.slice na (k + 1) nc) (k + 1) (pcF (updE P k (⟨(M4 : Int), (V2 : Int)⟩ : Plc)))) := RV2.out.keep (fun g e => heap_setOtherS _ _ (ob2 g e))
        replace SS : Hid (SrcT (y4.setCell ⟨sb, 1, none⟩ (.slice na (k + 1) nc)) b a len cap (4 + 2 * k + 1 + 1)) := SS.out.ofBlock (heap_setOtherS _ _ (by show b ≠ sb; have := HV.out; have := HBW.out; omega))
        replace SC : Hid (Cd (y4.setCell ⟨sb, 1, none⟩ (.slice na (k + 1) nc)) B b a len z) := SC.out.step ((Below.refl _ _).setCell (by show B ≤ sb; have := SC.out.hb; have := HBW.out; have := HV.out; omega) _)
        replace H : OnlyB b w (y4.setCell ⟨sb, 1, none⟩ (.slice na (k + 1) nc)) := H.setNew (by have := HV.out; omega) 1 _
        clear c1 f1 XS ob2
        generalize (y4.setCell ⟨sb, 1, none⟩ (.slice na (k + 1) nc)) = y5 at *
        refine hK.out _ _ H (fun _ => ?_)
        clear hK KK
        change wpAnyH _ _ _ _ _ _ _ { tmps := #[_,_,_,_,_,_,_,_,_,_,_,_,_,_,_,_,_,_,_,_,_,_,_,_,_,_,_,_,_,_,_,_,_,_,_,_,_,_,_], defers := _ } _
        refine wpAnyH_done (by kernel_rfl) ?_ _
        refine NoPanic.normal ?_
        have B9 : Hid (OnlyB b w y5) := H
        clear H
        go_wp2
        go_roundw
        case rel => exact ⟨k + 1, _, _, by have := HK.out; omega, by go_num, X0.out, XS2.out, RV2.out, SS.out, SC.out, B9.out⟩
        case measure => have := HK.out; simp [intOf]; omega
      · skip
        go_simp
        refine (N3.out (4 + 2 * k) _ (by have := HK.out; omega) SS.out SC.out).mono ?_
        rintro e y1 ⟨⟨r1, hr1, rfl⟩, hs, ho⟩
        replace X0 : Hid (Box3 y1 w.heap.size 25 (.int .i64 0) (.slice none 0 0) (.string ⟨#[]⟩)) := X0.out.ofBlock (ho.block _ X0.out.lt (by have := HBW.out; omega))
        replace RV : Hid (EO y1 w.heap.size 36 2 v0 k (pcF P)) := RV.out.onlyB ho HBW.out
        replace XS : Hid (Box3 y1 sb 25 (.int .i64 (zn : Int)) v0 (.string hh)) := XS.out.ofBlock (ho.block _ XS.out.lt (by have := HBW.out; have := HV.out; omega))
        replace SS : Hid (SrcT y1 b a len cap (4 + 2 * k + 1)) := hs
        replace SC : Hid (Cd y1 B b a len z) := SC.out.only ho
        replace H : OnlyB b w y1 := H.trans ho
        obtain ⟨M1, hM1⟩ : ∃ x, x = K5 + r1 := ⟨_, rfl⟩
        obtain ⟨M2, hM2⟩ : ∃ x, x = M1 % 40 := ⟨_, rfl⟩
        obtain ⟨M3, hM3⟩ : ∃ x, x = 2 + M2 := ⟨_, rfl⟩
        obtain ⟨M4, hM4⟩ : ∃ x, x = M3 + K7 := ⟨_, rfl⟩
        have q0 := KB.out
        have m1 : (K5 : Int) + (r1 : Int) = (M1 : Int) := by omega
        have m2 : (M1 : Int).tmod 40 = (M2 : Int) := by rw [hM2]; exact (Int.ofNat_tmod _ 40).symm
        have m2' : (M1 : Int) % 40 = (M2 : Int) := by omega
        have m3 : (2 : Int) + (M2 : Int) = (M3 : Int) := by omega
        have m4 : (M3 : Int) + (K7 : Int) = (M4 : Int) := by omega
        have u1 : IntKind.i64.wrap (M1 : Int) = (M1 : Int) := IntWalk.i64_in _ (by omega)
        have u2 : IntKind.i64.wrap (M2 : Int) = (M2 : Int) := IntWalk.i64_in _ (by omega)
        have u3 : IntKind.i64.wrap (M3 : Int) = (M3 : Int) := IntWalk.i64_in _ (by omega)
        have u4 : IntKind.i64.wrap (M4 : Int) = (M4 : Int) := IntWalk.i64_in _ (by omega)
        clear hs ho hr1 hM1 hM2 hM3 hM4 q0
        refine hK.out _ _ H (fun _ => ?_)
        clear hK KK
        change wpAnyH _ _ _ _ _ _ _ { tmps := #[_,_,_,_,_,_,_,_,_,_,_,_,_,_,_,_,_,_,_,_,_,_,_,_,_,_,_,_,_,_,_,_,_,_,_,_,_,_,_], defers := _ } _
        refine wpAnyH_take (i := 6) (v := .int .i64 (M1 : Int)) rfl (by kernel_rfl) (by kernel_rfl) (by kernel_rfl) (fun _ _ _ h => h) (Or.inl ⟨by rfl, ?_⟩) H ?_
        · intro w' hSw; clear hSw; go_simp
        change wpAnyH _ _ _ _ _ _ _ { tmps := #[_,_,_,_,_,_,_,_,_,_,_,_,_,_,_,_,_,_,_,_,_,_,_,_,_,_,_,_,_,_,_,_,_,_,_,_,_,_,_], defers := _ } _
        refine wpAnyH_take (i := 7) (v := .int .i64 (M2 : Int)) rfl (by kernel_rfl) (by kernel_rfl) (by kernel_rfl) (fun _ _ _ h => h) (Or.inl ⟨by rfl, ?_⟩) H ?_
        · intro w' hSw; clear hSw; go_simp
        change wpAnyH _ _ _ _ _ _ _ { tmps := #[_,_,_,_,_,_,_,_,_,_,_,_,_,_,_,_,_,_,_,_,_,_,_,_,_,_,_,_,_,_,_,_,_,_,_,_,_,_,_], defers := _ } _
        refine wpAnyH_take (i := 8) (v := .int .i64 (M3 : Int)) rfl (by kernel_rfl) (by kernel_rfl) (by kernel_rfl) (fun _ _ _ h => h) (Or.inl ⟨by rfl, ?_⟩) H ?_
        · intro w' hSw; clear hSw; go_simp
        change wpAnyH _ _ _ _ _ _ _ { tmps := #[_,_,_,_,_,_,_,_,_,_,_,_,_,_,_,_,_,_,_,_,_,_,_,_,_,_,_,_,_,_,_,_,_,_,_,_,_,_,_], defers := _ } _
        refine wpAnyH_take (i := 12) (v := .int .i64 (M4 : Int)) rfl (by kernel_rfl) (by kernel_rfl) (by kernel_rfl) (fun _ _ _ h => h) (Or.inl ⟨by rfl, ?_⟩) H ?_
        · intro w' hSw; clear hSw; go_simp
        change wpAnyH _ _ _ _ _ _ _ { tmps := #[_,_,_,_,_,_,_,_,_,_,_,_,_,_,_,_,_,_,_,_,_,_,_,_,_,_,_,_,_,_,_,_,_,_,_,_,_,_,_], defers := _ } _
        refine wpAnyH_ready (rs := [1, 14]) (by kernel_rfl) (by simp) ?_
        refine (AllReadyH.cons rfl (fun KK hK => ?_) (AllReadyH.cons rfl (fun KK hK => ?_) AllReadyH.nil))
        · skip
          have c1 := XS.out.c1
          go_simp
          refine hK.out _ _ H (fun _ => ?_)
          clear hK KK
          change wpAnyH _ _ _ _ _ _ _ { tmps := #[_,_,_,_,_,_,_,_,_,_,_,_,_,_,_,_,_,_,_,_,_,_,_,_,_,_,_,_,_,_,_,_,_,_,_,_,_,_,_], defers := _ } _
          refine wpAnyH_ready (rs := [14]) (by kernel_rfl) (by simp) ?_
          refine (AllReadyH.cons rfl (fun KK hK => ?_) AllReadyH.nil)
          go_simp
          refine (N9.out (4 + 2 * k + 1) _ (by have := HK.out; omega) SS.out SC.out).mono ?_
          rintro e y2 ⟨⟨r2, hr2, rfl⟩, hs, ho⟩
          replace X0 : Hid (Box3 y2 w.heap.size 25 (.int .i64 0) (.slice none 0 0) (.string ⟨#[]⟩)) := X0.out.ofBlock (ho.block _ X0.out.lt (by have := HBW.out; omega))
          replace RV : Hid (EO y2 w.heap.size 36 2 v0 k (pcF P)) := RV.out.onlyB ho HBW.out
          replace XS : Hid (Box3 y2 sb 25 (.int .i64 (zn : Int)) v0 (.string hh)) := XS.out.ofBlock (ho.block _ XS.out.lt (by have := HBW.out; have := HV.out; omega))
          replace SS : Hid (SrcT y2 b a len cap (4 + 2 * k + 1 + 1)) := hs
          replace SC : Hid (Cd y2 B b a len z) := SC.out.only ho
          replace H : OnlyB b w y2 := H.trans ho
          obtain ⟨V2, hV2⟩ : ∃ x, x = 1 + r2 := ⟨_, rfl⟩
          have v2 : (1 : Int) + (r2 : Int) = (V2 : Int) := by omega
          have u5 : IntKind.i64.wrap (V2 : Int) = (V2 : Int) := IntWalk.i64_in _ (by omega)
          clear hs ho hr2 hV2
          refine hK.out _ _ H (fun _ => ?_)
          clear hK KK
          change wpAnyH _ _ _ _ _ _ _ { tmps := #[_,_,_,_,_,_,_,_,_,_,_,_,_,_,_,_,_,_,_,_,_,_,_,_,_,_,_,_,_,_,_,_,_,_,_,_,_,_,_], defers := _ } _
          refine wpAnyH_take (i := 15) (v := .int .i64 (V2 : Int)) rfl (by kernel_rfl) (by kernel_rfl) (by kernel_rfl) (fun _ _ _ h => h) (Or.inl ⟨by rfl, ?_⟩) H ?_
          · intro w' hSw; clear hSw; go_simp
          change wpAnyH _ _ _ _ _ _ _ { tmps := #[_,_,_,_,_,_,_,_,_,_,_,_,_,_,_,_,_,_,_,_,_,_,_,_,_,_,_,_,_,_,_,_,_,_,_,_,_,_,_], defers := _ } _
          refine wpAnyH_take (i := 16) (v := .agg #[.int .i64 (M4 : Int), .int .i64 (V2 : Int)]) rfl (by kernel_rfl) (by kernel_rfl) (by kernel_rfl) (fun _ _ _ h => h) (Or.inl ⟨by rfl, ?_⟩) H ?_
          · intro w' hSw; clear hSw; go_simp
          change wpAnyH _ _ _ _ _ _ _ { tmps := #[_,_,_,_,_,_,_,_,_,_,_,_,_,_,_,_,_,_,_,_,_,_,_,_,_,_,_,_,_,_,_,_,_,_,_,_,_,_,_], defers := _ } _
          refine wpAnyH_ready (rs := [17]) (by kernel_rfl) (by simp) ?_
          refine (AllReadyH.cons rfl (fun KK hK => ?_) AllReadyH.nil)
          go_simp
          have hb : Below y2.heap.size y2 (y2.alloc (.cells #[.int .i64 (M4 : Int), .int .i64 (V2 : Int)] 36)) := (Below.refl _ _).alloc (Nat.le_refl _) _
          have LB : Hid (Box2 (y2.alloc (.cells #[.int .i64 (M4 : Int), .int .i64 (V2 : Int)] 36)) y2.heap.size 36 (.int .i64 (M4 : Int)) (.int .i64 (V2 : Int))) := Box2.made _ _ _ _
          replace X0 : Hid (Box3 (y2.alloc (.cells #[.int .i64 (M4 : Int), .int .i64 (V2 : Int)] 36)) w.heap.size 25 (.int .i64 0) (.slice none 0 0) (.string ⟨#[]⟩)) := X0.out.below hb
          replace XS : Hid (Box3 (y2.alloc (.cells #[.int .i64 (M4 : Int), .int .i64 (V2 : Int)] 36)) sb 25 (.int .i64 (zn : Int)) v0 (.string hh)) := XS.out.below hb
          replace RV : Hid (EO (y2.alloc (.cells #[.int .i64 (M4 : Int), .int .i64 (V2 : Int)] 36)) w.heap.size 36 2 v0 k (pcF P)) := RV.out.below hb
          replace SS : Hid (SrcT (y2.alloc (.cells #[.int .i64 (M4 : Int), .int .i64 (V2 : Int)] 36)) b a len cap (4 + 2 * k + 1 + 1)) := SS.out.below hb
          replace SC : Hid (Cd (y2.alloc (.cells #[.int .i64 (M4 : Int), .int .i64 (V2 : Int)] 36)) B b a len z) := SC.out.step (hb.mono SC.out.hw)
          replace H : OnlyB b w (y2.alloc (.cells #[.int .i64 (M4 : Int), .int .i64 (V2 : Int)] 36)) := H.below hb
          clear hb
          generalize (y2.alloc (.cells #[.int .i64 (M4 : Int), .int .i64 (V2 : Int)] 36)) = y3 at *
          generalize y2.heap.size = lb at *
          refine hK.out _ _ H (fun _ => ?_)
          clear hK KK
          change wpAnyH _ _ _ _ _ _ _ { tmps := #[_,_,_,_,_,_,_,_,_,_,_,_,_,_,_,_,_,_,_,_,_,_,_,_,_,_,_,_,_,_,_,_,_,_,_,_,_,_,_], defers := _ } _
          refine wpAnyH_ready (rs := [18]) (by kernel_rfl) (by simp) ?_
          refine (AllReadyH.cons rfl (fun KK hK => ?_) AllReadyH.nil)
          obtain ⟨nv, y4, hr5, hE5, hg5, hl5⟩ := appPlc y3 w.heap.size v0 k lb P (⟨(M4 : Int), (V2 : Int)⟩ : Plc) H.size (by have := HK.out; omega) RV.out (fun j hj => by
              rw [Nat.zero_add]
              rcases (show j = 0 ∨ j = 1 by omega) with rfl | rfl
              · exact LB.out.c0
              · exact LB.out.c1)
          obtain ⟨na, nc, rfl⟩ := hE5.form
          have ob1 := RV.out.notBox3 X0.out
          have ob2 := RV.out.notBox3 XS.out
          have BW : Below w.heap.size y3 y4 := (Below.refl _ _).grown hg5 H.size (fun y hy => (RV.out.ge y hy).1)
          replace H : OnlyB b w y4 := H.belowAt BW
          replace X0 : Hid (Box3 y4 w.heap.size 25 (.int .i64 0) (.slice none 0 0) (.string ⟨#[]⟩)) := X0.out.ofBlock (hg5.block _ X0.out.lt (fun e => ob1 _ e.symm rfl))
          replace XS : Hid (Box3 y4 sb 25 (.int .i64 (zn : Int)) v0 (.string hh)) := XS.out.ofBlock (hg5.block _ XS.out.lt (fun e => ob2 _ e.symm rfl))
          replace SS : Hid (SrcT y4 b a len cap (4 + 2 * k + 1 + 1)) := SS.out.ofBlock (BW.block b HBW.out)
          replace SC : Hid (Cd y4 B b a len z) := SC.out.step (BW.mono (by have := SC.out.hb; have := HBW.out; omega))
          have RV2 : Hid (EO y4 w.heap.size 36 2 (.slice na (k + 1) nc) (k + 1) (pcF (updE P k (⟨(M4 : Int), (V2 : Int)⟩ : Plc)))) := hE5
          clear hE5 hg5 hl5 ob1 ob2 RV LB BW
          rw [if_pos (by rfl)]
          refine Lib.wp_append_run _ (.tmp 19) (.tmp 35) 23 23 rfl v0 (.slice (some ⟨lb, 0, none⟩) 1 1) rfl rfl _ _ (hr5 _) ?_
          refine hK.out _ _ H (fun _ => ?_)
          clear hK KK
          change wpAnyH _ _ _ _ _ _ _ { tmps := #[_,_,_,_,_,_,_,_,_,_,_,_,_,_,_,_,_,_,_,_,_,_,_,_,_,_,_,_,_,_,_,_,_,_,_,_,_,_,_], defers := _ } _
          refine wpAnyH_take (i := 19) (v := .pointer (some ⟨sb, 1, none⟩)) rfl (by kernel_rfl) (by kernel_rfl) (by kernel_rfl) (fun _ _ _ h => h) (Or.inl ⟨by rfl, ?_⟩) H ?_
          · intro w' hSw; clear hSw; go_simp
          change wpAnyH _ _ _ _ _ _ _ { tmps := #[_,_,_,_,_,_,_,_,_,_,_,_,_,_,_,_,_,_,_,_,_,_,_,_,_,_,_,_,_,_,_,_,_,_,_,_,_,_,_], defers := _ } _
          refine wpAnyH_ready (rs := [20]) (by kernel_rfl) (by simp) ?_
          refine (AllReadyH.cons rfl (fun KK hK => ?_) AllReadyH.nil)
          have c1 := XS.out.c1
          have f1 := XS.out.fr 1
          go_simp
          have ob2 := RV2.out.notBox3 XS.out
          have XS2 : Hid (Box3 (y4.setCell ⟨sb, 1, none⟩ (.slice na (k + 1) nc)) sb 25 (.int .i64 (zn : Int)) (.slice na (k + 1) nc) (.string hh)) := XS.out.set1 _
          replace X0 : Hid (Box3 (y4.setCell ⟨sb, 1, none⟩ (.slice na (k + 1) nc)) w.heap.size 25 (.int .i64 0) (.slice none 0 0) (.string ⟨#[]⟩)) := X0.out.other (by show w.heap.size ≠ sb; have := HV.out; omega) _
          replace RV2 : Hid (EO (y4.setCell ⟨sb, 1, none⟩ (.slice na (k + 1) nc)) w.heap.size 36 2 (.slice na (k + 1) nc) (k + 1) (pcF (updE P k (⟨(M4 : Int), (V2 : Int)⟩ : Plc)))) := RV2.out.keep (fun g e => heap_setOtherS _ _ (ob2 g e))
          replace SS : Hid (SrcT (y4.setCell ⟨sb, 1, none⟩ (.slice na (k + 1) nc)) b a len cap (4 + 2 * k + 1 + 1)) := SS.out.ofBlock (heap_setOtherS _ _ (by show b ≠ sb; have := HV.out; have := HBW.out; omega))
          replace SC : Hid (Cd (y4.setCell ⟨sb, 1, none⟩ (.slice na (k + 1) nc)) B b a len z) := SC.out.step ((Below.refl _ _).setCell (by show B ≤ sb; have := SC.out.hb; have := HBW.out; have := HV.out; omega) _)
          replace H : OnlyB b w (y4.setCell ⟨sb, 1, none⟩ (.slice na (k + 1) nc)) := H.setNew (by have := HV.out; omega) 1 _
          clear c1 f1 XS ob2
          generalize (y4.setCell ⟨sb, 1, none⟩ (.slice na (k + 1) nc)) = y5 at *
          refine hK.out _ _ H (fun _ => ?_)
          clear hK KK
          change wpAnyH _ _ _ _ _ _ _ { tmps := #[_,_,_,_,_,_,_,_,_,_,_,_,_,_,_,_,_,_,_,_,_,_,_,_,_,_,_,_,_,_,_,_,_,_,_,_,_,_,_], defers := _ } _
          refine wpAnyH_done (by kernel_rfl) ?_ _
          refine NoPanic.normal ?_
          have B9 : Hid (OnlyB b w y5) := H
          clear H
          go_wp2
          go_roundw
          case rel => exact ⟨k + 1, _, _, by have := HK.out; omega, by go_num, X0.out, XS2.out, RV2.out, SS.out, SC.out, B9.out⟩
          case measure => have := HK.out; simp [intOf]; omega
        · skip
          go_simp
          refine (N9.out (4 + 2 * k + 1) _ (by have := HK.out; omega) SS.out SC.out).mono ?_
          rintro e y2 ⟨⟨r2, hr2, rfl⟩, hs, ho⟩
          replace X0 : Hid (Box3 y2 w.heap.size 25 (.int .i64 0) (.slice none 0 0) (.string ⟨#[]⟩)) := X0.out.ofBlock (ho.block _ X0.out.lt (by have := HBW.out; omega))
          replace RV : Hid (EO y2 w.heap.size 36 2 v0 k (pcF P)) := RV.out.onlyB ho HBW.out
          replace XS : Hid (Box3 y2 sb 25 (.int .i64 (zn : Int)) v0 (.string hh)) := XS.out.ofBlock (ho.block _ XS.out.lt (by have := HBW.out; have := HV.out; omega))
          replace SS : Hid (SrcT y2 b a len cap (4 + 2 * k + 1 + 1)) := hs
          replace SC : Hid (Cd y2 B b a len z) := SC.out.only ho
          replace H : OnlyB b w y2 := H.trans ho
          obtain ⟨V2, hV2⟩ : ∃ x, x = 1 + r2 := ⟨_, rfl⟩
          have v2 : (1 : Int) + (r2 : Int) = (V2 : Int) := by omega
          have u5 : IntKind.i64.wrap (V2 : Int) = (V2 : Int) := IntWalk.i64_in _ (by omega)
          clear hs ho hr2 hV2
          refine hK.out _ _ H (fun _ => ?_)
          clear hK KK
          change wpAnyH _ _ _ _ _ _ _ { tmps := #[_,_,_,_,_,_,_,_,_,_,_,_,_,_,_,_,_,_,_,_,_,_,_,_,_,_,_,_,_,_,_,_,_,_,_,_,_,_,_], defers := _ } _
          refine wpAnyH_take (i := 15) (v := .int .i64 (V2 : Int)) rfl (by kernel_rfl) (by kernel_rfl) (by kernel_rfl) (fun _ _ _ h => h) (Or.inl ⟨by rfl, ?_⟩) H ?_
          · intro w' hSw; clear hSw; go_simp
          change wpAnyH _ _ _ _ _ _ _ { tmps := #[_,_,_,_,_,_,_,_,_,_,_,_,_,_,_,_,_,_,_,_,_,_,_,_,_,_,_,_,_,_,_,_,_,_,_,_,_,_,_], defers := _ } _
          refine wpAnyH_take (i := 16) (v := .agg #[.int .i64 (M4 : Int), .int .i64 (V2 : Int)]) rfl (by kernel_rfl) (by kernel_rfl) (by kernel_rfl) (fun _ _ _ h => h) (Or.inl ⟨by rfl, ?_⟩) H ?_
          · intro w' hSw; clear hSw; go_simp
          change wpAnyH _ _ _ _ _ _ _ { tmps := #[_,_,_,_,_,_,_,_,_,_,_,_,_,_,_,_,_,_,_,_,_,_,_,_,_,_,_,_,_,_,_,_,_,_,_,_,_,_,_], defers := _ } _
          refine wpAnyH_ready (rs := [1, 17]) (by kernel_rfl) (by simp) ?_
          refine (AllReadyH.cons rfl (fun KK hK => ?_) (AllReadyH.cons rfl (fun KK hK => ?_) AllReadyH.nil))
          · skip
            have c1 := XS.out.c1
            go_simp
            refine hK.out _ _ H (fun _ => ?_)
            clear hK KK
            change wpAnyH _ _ _ _ _ _ _ { tmps := #[_,_,_,_,_,_,_,_,_,_,_,_,_,_,_,_,_,_,_,_,_,_,_,_,_,_,_,_,_,_,_,_,_,_,_,_,_,_,_], defers := _ } _
            refine wpAnyH_ready (rs := [17]) (by kernel_rfl) (by simp) ?_
            refine (AllReadyH.cons rfl (fun KK hK => ?_) AllReadyH.nil)
            go_simp
            have hb : Below y2.heap.size y2 (y2.alloc (.cells #[.int .i64 (M4 : Int), .int .i64 (V2 : Int)] 36)) := (Below.refl _ _).alloc (Nat.le_refl _) _
            have LB : Hid (Box2 (y2.alloc (.cells #[.int .i64 (M4 : Int), .int .i64 (V2 : Int)] 36)) y2.heap.size 36 (.int .i64 (M4 : Int)) (.int .i64 (V2 : Int))) := Box2.made _ _ _ _
            replace X0 : Hid (Box3 (y2.alloc (.cells #[.int .i64 (M4 : Int), .int .i64 (V2 : Int)] 36)) w.heap.size 25 (.int .i64 0) (.slice none 0 0) (.string ⟨#[]⟩)) := X0.out.below hb
            replace XS : Hid (Box3 (y2.alloc (.cells #[.int .i64 (M4 : Int), .int .i64 (V2 : Int)] 36)) sb 25 (.int .i64 (zn : Int)) v0 (.string hh)) := XS.out.below hb
            replace RV : Hid (EO (y2.alloc (.cells #[.int .i64 (M4 : Int), .int .i64 (V2 : Int)] 36)) w.heap.size 36 2 v0 k (pcF P)) := RV.out.below hb
            replace SS : Hid (SrcT (y2.alloc (.cells #[.int .i64 (M4 : Int), .int .i64 (V2 : Int)] 36)) b a len cap (4 + 2 * k + 1 + 1)) := SS.out.below hb
            replace SC : Hid (Cd (y2.alloc (.cells #[.int .i64 (M4 : Int), .int .i64 (V2 : Int)] 36)) B b a len z) := SC.out.step (hb.mono SC.out.hw)
            replace H : OnlyB b w (y2.alloc (.cells #[.int .i64 (M4 : Int), .int .i64 (V2 : Int)] 36)) := H.below hb
            clear hb
            generalize (y2.alloc (.cells #[.int .i64 (M4 : Int), .int .i64 (V2 : Int)] 36)) = y3 at *
            generalize y2.heap.size = lb at *
            refine hK.out _ _ H (fun _ => ?_)
            clear hK KK
            change wpAnyH _ _ _ _ _ _ _ { tmps := #[_,_,_,_,_,_,_,_,_,_,_,_,_,_,_,_,_,_,_,_,_,_,_,_,_,_,_,_,_,_,_,_,_,_,_,_,_,_,_], defers := _ } _
            refine wpAnyH_ready (rs := [18]) (by kernel_rfl) (by simp) ?_
            refine (AllReadyH.cons rfl (fun KK hK => ?_) AllReadyH.nil)
            obtain ⟨nv, y4, hr5, hE5, hg5, hl5⟩ := appPlc y3 w.heap.size v0 k lb P (⟨(M4 : Int), (V2 : Int)⟩ : Plc) H.size (by have := HK.out; omega) RV.out (fun j hj => by
                rw [Nat.zero_add]
                rcases (show j = 0 ∨ j = 1 by omega) with rfl | rfl
                · exact LB.out.c0
                · exact LB.out.c1)
            obtain ⟨na, nc, rfl⟩ := hE5.form
            have ob1 := RV.out.notBox3 X0.out
            have ob2 := RV.out.notBox3 XS.out
            have BW : Below w.heap.size y3 y4 := (Below.refl _ _).grown hg5 H.size (fun y hy => (RV.out.ge y hy).1)
            replace H : OnlyB b w y4 := H.belowAt BW
            replace X0 : Hid (Box3 y4 w.heap.size 25 (.int .i64 0) (.slice none 0 0) (.string ⟨#[]⟩)) := X0.out.ofBlock (hg5.block _ X0.out.lt (fun e => ob1 _ e.symm rfl))
            replace XS : Hid (Box3 y4 sb 25 (.int .i64 (zn : Int)) v0 (.string hh)) := XS.out.ofBlock (hg5.block _ XS.out.lt (fun e => ob2 _ e.symm rfl))
            replace SS : Hid (SrcT y4 b a len cap (4 + 2 * k + 1 + 1)) := SS.out.ofBlock (BW.block b HBW.out)
            replace SC : Hid (Cd y4 B b a len z) := SC.out.step (BW.mono (by have := SC.out.hb; have := HBW.out; omega))
            have RV2 : Hid (EO y4 w.heap.size 36 2 (.slice na (k + 1) nc) (k + 1) (pcF (updE P k (⟨(M4 : Int), (V2 : Int)⟩ : Plc)))) := hE5
            clear hE5 hg5 hl5 ob1 ob2 RV LB BW
            rw [if_pos (by rfl)]
            refine Lib.wp_append_run _ (.tmp 19) (.tmp 35) 23 23 rfl v0 (.slice (some ⟨lb, 0, none⟩) 1 1) rfl rfl _ _ (hr5 _) ?_
            refine hK.out _ _ H (fun _ => ?_)
            clear hK KK
            change wpAnyH _ _ _ _ _ _ _ { tmps := #[_,_,_,_,_,_,_,_,_,_,_,_,_,_,_,_,_,_,_,_,_,_,_,_,_,_,_,_,_,_,_,_,_,_,_,_,_,_,_], defers := _ } _
            refine wpAnyH_take (i := 19) (v := .pointer (some ⟨sb, 1, none⟩)) rfl (by kernel_rfl) (by kernel_rfl) (by kernel_rfl) (fun _ _ _ h => h) (Or.inl ⟨by rfl, ?_⟩) H ?_
            · intro w' hSw; clear hSw; go_simp
            change wpAnyH _ _ _ _ _ _ _ { tmps := #[_,_,_,_,_,_,_,_,_,_,_,_,_,_,_,_,_,_,_,_,_,_,_,_,_,_,_,_,_,_,_,_,_,_,_,_,_,_,_], defers := _ } _
            refine wpAnyH_ready (rs := [20]) (by kernel_rfl) (by simp) ?_
            refine (AllReadyH.cons rfl (fun KK hK => ?_) AllReadyH.nil)
            have c1 := XS.out.c1
            have f1 := XS.out.fr 1
            go_simp
            have ob2 := RV2.out.notBox3 XS.out
            have XS2 : Hid (Box3 (y4.setCell ⟨sb, 1, none⟩ (.slice na (k + 1) nc)) sb 25 (.int .i64 (zn : Int)) (.slice na (k + 1) nc) (.string hh)) := XS.out.set1 _
            replace X0 : Hid (Box3 (y4.setCell ⟨sb, 1, none⟩ (.slice na (k + 1) nc)) w.heap.size 25 (.int .i64 0) (.slice none 0 0) (.string ⟨#[]⟩)) := X0.out.other (by show w.heap.size ≠ sb; have := HV.out; omega) _
            replace RV2 : Hid (EO (y4.setCell ⟨sb, 1, none⟩ (.slice na (k + 1) nc)) w.heap.size 36 2 (.slice na (k + 1) nc) (k + 1) (pcF (updE P k (⟨(M4 : Int), (V2 : Int)⟩ : Plc)))) := RV2.out.keep (fun g e => heap_setOtherS _ _ (ob2 g e))
            replace SS : Hid (SrcT (y4.setCell ⟨sb, 1, none⟩ (.slice na (k + 1) nc)) b a len cap (4 + 2 * k + 1 + 1)) := SS.out.ofBlock (heap_setOtherS _ _ (by show b ≠ sb; have := HV.out; have := HBW.out; omega))
            replace SC : Hid (Cd (y4.setCell ⟨sb, 1, none⟩ (.slice na (k + 1) nc)) B b a len z) := SC.out.step ((Below.refl _ _).setCell (by show B ≤ sb; have := SC.out.hb; have := HBW.out; have := HV.out; omega) _)
            replace H : OnlyB b w (y4.setCell ⟨sb, 1, none⟩ (.slice na (k + 1) nc)) := H.setNew (by have := HV.out; omega) 1 _
            clear c1 f1 XS ob2
            generalize (y4.setCell ⟨sb, 1, none⟩ (.slice na (k + 1) nc)) = y5 at *
            refine hK.out _ _ H (fun _ => ?_)
            clear hK KK
            change wpAnyH _ _ _ _ _ _ _ { tmps := #[_,_,_,_,_,_,_,_,_,_,_,_,_,_,_,_,_,_,_,_,_,_,_,_,_,_,_,_,_,_,_,_,_,_,_,_,_,_,_], defers := _ } _
            refine wpAnyH_done (by kernel_rfl) ?_ _
            refine NoPanic.normal ?_
            have B9 : Hid (OnlyB b w y5) := H
            clear H
            go_wp2
            go_roundw
            case rel => exact ⟨k + 1, _, _, by have := HK.out; omega, by go_num, X0.out, XS2.out, RV2.out, SS.out, SC.out, B9.out⟩
            case measure => have := HK.out; simp [intOf]; omega
          · skip
            go_simp
            have hb : Below y2.heap.size y2 (y2.alloc (.cells #[.int .i64 (M4 : Int), .int .i64 (V2 : Int)] 36)) := (Below.refl _ _).alloc (Nat.le_refl _) _
            have LB : Hid (Box2 (y2.alloc (.cells #[.int .i64 (M4 : Int), .int .i64 (V2 : Int)] 36)) y2.heap.size 36 (.int .i64 (M4 : Int)) (.int .i64 (V2 : Int))) := Box2.made _ _ _ _
            replace X0 : Hid (Box3 (y2.alloc (.cells #[.int .i64 (M4 : Int), .int .i64 (V2 : Int)] 36)) w.heap.size 25 (.int .i64 0) (.slice none 0 0) (.string ⟨#[]⟩)) := X0.out.below hb
            replace XS : Hid (Box3 (y2.alloc (.cells #[.int .i64 (M4 : Int), .int .i64 (V2 : Int)] 36)) sb 25 (.int .i64 (zn : Int)) v0 (.string hh)) := XS.out.below hb
            replace RV : Hid (EO (y2.alloc (.cells #[.int .i64 (M4 : Int), .int .i64 (V2 : Int)] 36)) w.heap.size 36 2 v0 k (pcF P)) := RV.out.below hb
            replace SS : Hid (SrcT (y2.alloc (.cells #[.int .i64 (M4 : Int), .int .i64 (V2 : Int)] 36)) b a len cap (4 + 2 * k + 1 + 1)) := SS.out.below hb
            replace SC : Hid (Cd (y2.alloc (.cells #[.int .i64 (M4 : Int), .int .i64 (V2 : Int)] 36)) B b a len z) := SC.out.step (hb.mono SC.out.hw)
            replace H : OnlyB b w (y2.alloc (.cells #[.int .i64 (M4 : Int), .int .i64 (V2 : Int)] 36)) := H.below hb
            clear hb
            generalize (y2.alloc (.cells #[.int .i64 (M4 : Int), .int .i64 (V2 : Int)] 36)) = y3 at *
            generalize y2.heap.size = lb at *
            refine hK.out _ _ H (fun _ => ?_)
            clear hK KK
            change wpAnyH _ _ _ _ _ _ _ { tmps := #[_,_,_,_,_,_,_,_,_,_,_,_,_,_,_,_,_,_,_,_,_,_,_,_,_,_,_,_,_,_,_,_,_,_,_,_,_,_,_], defers := _ } _
            refine wpAnyH_ready (rs := [1]) (by kernel_rfl) (by simp) ?_
            refine (AllReadyH.cons rfl (fun KK hK => ?_) AllReadyH.nil)
            have c1 := XS.out.c1
            go_simp
            refine hK.out _ _ H (fun _ => ?_)
            clear hK KK
            change wpAnyH _ _ _ _ _ _ _ { tmps := #[_,_,_,_,_,_,_,_,_,_,_,_,_,_,_,_,_,_,_,_,_,_,_,_,_,_,_,_,_,_,_,_,_,_,_,_,_,_,_], defers := _ } _
            refine wpAnyH_ready (rs := [18]) (by kernel_rfl) (by simp) ?_
            refine (AllReadyH.cons rfl (fun KK hK => ?_) AllReadyH.nil)
            obtain ⟨nv, y4, hr5, hE5, hg5, hl5⟩ := appPlc y3 w.heap.size v0 k lb P (⟨(M4 : Int), (V2 : Int)⟩ : Plc) H.size (by have := HK.out; omega) RV.out (fun j hj => by
                rw [Nat.zero_add]
                rcases (show j = 0 ∨ j = 1 by omega) with rfl | rfl
                · exact LB.out.c0
                · exact LB.out.c1)
            obtain ⟨na, nc, rfl⟩ := hE5.form
            have ob1 := RV.out.notBox3 X0.out
            have ob2 := RV.out.notBox3 XS.out
            have BW : Below w.heap.size y3 y4 := (Below.refl _ _).grown hg5 H.size (fun y hy => (RV.out.ge y hy).1)
            replace H : OnlyB b w y4 := H.belowAt BW
            replace X0 : Hid (Box3 y4 w.heap.size 25 (.int .i64 0) (.slice none 0 0) (.string ⟨#[]⟩)) := X0.out.ofBlock (hg5.block _ X0.out.lt (fun e => ob1 _ e.symm rfl))
            replace XS : Hid (Box3 y4 sb 25 (.int .i64 (zn : Int)) v0 (.string hh)) := XS.out.ofBlock (hg5.block _ XS.out.lt (fun e => ob2 _ e.symm rfl))
            replace SS : Hid (SrcT y4 b a len cap (4 + 2 * k + 1 + 1)) := SS.out.ofBlock (BW.block b HBW.out)
            replace SC : Hid (Cd y4 B b a len z) := SC.out.step (BW.mono (by have := SC.out.hb; have := HBW.out; omega))
            have RV2 : Hid (EO y4 w.heap.size 36 2 (.slice na (k + 1) nc) (k + 1) (pcF (updE P k (⟨(M4 : Int), (V2 : Int)⟩ : Plc)))) := hE5
            clear hE5 hg5 hl5 ob1 ob2 RV LB BW
            rw [if_pos (by rfl)]
            refine Lib.wp_append_run _ (.tmp 19) (.tmp 35) 23 23 rfl v0 (.slice (some ⟨lb, 0, none⟩) 1 1) rfl rfl _ _ (hr5 _) ?_
            refine hK.out _ _ H (fun _ => ?_)
            clear hK KK
            change wpAnyH _ _ _ _ _ _ _ { tmps := #[_,_,_,_,_,_,_,_,_,_,_,_,_,_,_,_,_,_,_,_,_,_,_,_,_,_,_,_,_,_,_,_,_,_,_,_,_,_,_], defers := _ } _
            refine wpAnyH_take (i := 19) (v := .pointer (some ⟨sb, 1, none⟩)) rfl (by kernel_rfl) (by kernel_rfl) (by kernel_rfl) (fun _ _ _ h => h) (Or.inl ⟨by rfl, ?_⟩) H ?_
            · intro w' hSw; clear hSw; go_simp
            change wpAnyH _ _ _ _ _ _ _ { tmps := #[_,_,_,_,_,_,_,_,_,_,_,_,_,_,_,_,_,_,_,_,_,_,_,_,_,_,_,_,_,_,_,_,_,_,_,_,_,_,_], defers := _ } _
            refine wpAnyH_ready (rs := [20]) (by kernel_rfl) (by simp) ?_
            refine (AllReadyH.cons rfl (fun KK hK => ?_) AllReadyH.nil)
            have c1 := XS.out.c1
            have f1 := XS.out.fr 1
            go_simp
            have ob2 := RV2.out.notBox3 XS.out
            have XS2 : Hid (Box3 (y4.setCell ⟨sb, 1, none⟩ (.slice na (k + 1) nc)) sb 25 (.int .i64 (zn : Int)) (.slice na (k + 1) nc) (.string hh)) := XS.out.set1 _
            replace X0 : Hid (Box3 (y4.setCell ⟨sb, 1, none⟩ (.slice na (k + 1) nc)) w.heap.size 25 (.int .i64 0) (.slice none 0 0) (.string ⟨#[]⟩)) := X0.out.other (by show w.heap.size ≠ sb; have := HV.out; omega) _
            replace RV2 : Hid (EO (y4.setCell ⟨sb, 1, none⟩ (.slice na (k + 1) nc)) w.heap.size 36 2 (.slice na (k + 1) nc) (k + 1) (pcF (updE P k (⟨(M4 : Int), (V2 : Int)⟩ : Plc)))) := RV2.out.keep (fun g e => heap_setOtherS _ _ (ob2 g e))
            replace SS : Hid (SrcT (y4.setCell ⟨sb, 1, none⟩ (.slice na (k + 1) nc)) b a len cap (4 + 2 * k + 1 + 1)) := SS.out.ofBlock (heap_setOtherS _ _ (by show b ≠ sb; have := HV.out; have := HBW.out; omega))
            replace SC : Hid (Cd (y4.setCell ⟨sb, 1, none⟩ (.slice na (k + 1) nc)) B b a len z) := SC.out.step ((Below.refl _ _).setCell (by show B ≤ sb; have := SC.out.hb; have := HBW.out; have := HV.out; omega) _)
            replace H : OnlyB b w (y4.setCell ⟨sb, 1, none⟩ (.slice na (k + 1) nc)) := H.setNew (by have := HV.out; omega) 1 _
            clear c1 f1 XS ob2
            generalize (y4.setCell ⟨sb, 1, none⟩ (.slice na (k + 1) nc)) = y5 at *
            refine hK.out _ _ H (fun _ => ?_)
            clear hK KK
            change wpAnyH _ _ _ _ _ _ _ { tmps := #[_,_,_,_,_,_,_,_,_,_,_,_,_,_,_,_,_,_,_,_,_,_,_,_,_,_,_,_,_,_,_,_,_,_,_,_,_,_,_], defers := _ } _
            refine wpAnyH_done (by kernel_rfl) ?_ _
            refine NoPanic.normal ?_
            have B9 : Hid (OnlyB b w y5) := H
            clear H
            go_wp2
            go_roundw
            case rel => exact ⟨k + 1, _, _, by have := HK.out; omega, by go_num, X0.out, XS2.out, RV2.out, SS.out, SC.out, B9.out⟩
            case measure => have := HK.out; simp [intOf]; omega
    · obtain rfl : k = n := by omega
      obtain ⟨na, nc, rfl⟩ := RV.out.form
      have hnlt : ¬ (k : Int) < (k : Int) := by omega
      have c0 := XS.out.c0
      have c1 := XS.out.c1
      have c2 := XS.out.c2
      have g0 := X0.out.c0
      have g1 := X0.out.c1
      have g2 := X0.out.c2
      have h0 := X0.out.fr 0
      have h1 := X0.out.fr 1
      have h2 := X0.out.fr 2
      have FB : Hid (Box3 (((wr.setCell ⟨w.heap.size, 0, none⟩ (.int .i64 (zn : Int))).setCell ⟨w.heap.size, 1, none⟩ (.slice na k nc)).setCell ⟨w.heap.size, 2, none⟩ (.string hh)) w.heap.size 25 (.int .i64 (zn : Int)) (.slice na k nc) (.string hh)) := ((X0.out.set0 _).set1 _).set2 _
      have ob1 := RV.out.notBox3 X0.out
      have FR : EO (((wr.setCell ⟨w.heap.size, 0, none⟩ (.int .i64 (zn : Int))).setCell ⟨w.heap.size, 1, none⟩ (.slice na k nc)).setCell ⟨w.heap.size, 2, none⟩ (.string hh)) w.heap.size 36 2 (.slice na k nc) k (pcF P) := ((RV.out.keep (fun g e => heap_setOtherS _ _ (ob1 g e))).keep (fun g e => heap_setOtherS _ _ (ob1 g e))).keep (fun g e => heap_setOtherS _ _ (ob1 g e))
      have Q : Hid (RetSuN w.heap.size (((wr.setCell ⟨w.heap.size, 0, none⟩ (.int .i64 (zn : Int))).setCell ⟨w.heap.size, 1, none⟩ (.slice na k nc)).setCell ⟨w.heap.size, 2, none⟩ (.string hh)) (.returned (.agg #[.int .i64 (zn : Int), .slice na k nc, .string hh]))) := by
        refine ⟨zn, P, hh, na, nc, ZB.out.1, ZB.out.2, H32.out, ?_, ?_⟩
        · rw [← HN.out]
        · rw [← HN.out]; exact FR
      have QO : Hid (OnlyB b w (((wr.setCell ⟨w.heap.size, 0, none⟩ (.int .i64 (zn : Int))).setCell ⟨w.heap.size, 1, none⟩ (.slice na k nc)).setCell ⟨w.heap.size, 2, none⟩ (.string hh))) := ((HO.out.setNew (Nat.le_refl _) 0 _).setNew (Nat.le_refl _) 1 _).setNew (Nat.le_refl _) 2 _
      clear X0 XS RV SS SC HO FR ob1 N3 N9 hlt hk
      go_wp2
      exact ret_cell (b := w.heap.size) (v := .agg #[.int .i64 (zn : Int), .slice na k nc, .string hh]) Tryz.results19 rfl FB.out.loadSup ⟨Q.out, QO.out⟩
end Go.Proofs.YtkmakpbphdjbcaaGreatDoor
namespace Go.Proofs.YtkmakpbphdjbcaaGreatDoor
open Go.ChangeShapes Go.WideShapes Go.ChangeAt Go.RowKit
set_option linter.unusedVariables false
def plU : Plc := ⟨5, 2⟩
theorem supU_ok {r : ByteArray} (h : r.size = 32) : SupOk 3 1 (fun _ => plU) r :=
  ⟨⟨by omega, by omega, rfl, h⟩, fun i hi => ⟨⟨⟨(by decide : (2 : Int) ≤ 5), (by decide : (5 : Int) < 64)⟩, ⟨(by decide : (1 : Int) ≤ 2), (by decide : (2 : Int) ≤ 65535)⟩⟩, fun j hj => by omega⟩⟩
theorem litU (w : World) (B : Nat) (hB : B ≤ w.heap.size) : EO (w.alloc (.cells #[.int .i64 5, .int .i64 2] 36)) B 36 2 (.slice (some ⟨w.heap.size, 0, none⟩) 1 1) 1 (pcF (fun _ => plU)) := by
  refine ⟨by simp [elv], .inr ⟨w.heap.size, 1, #[.int .i64 5, .int .i64 2], rfl, hB, Deep.blk_alloc_new _ _, Nat.le_refl _, by unfold maxLen; omega, rfl, ?_⟩⟩
  rfl
def RetSuOk (B : Nat) (w : World) (e : Ending) : Prop := ∃ (z : Int) (n : Nat) (P : Nat → Plc) (r : ByteArray) (a : Option Addr) (c : Nat), SupOk z n P r ∧ e = .returned (.agg #[.int .i64 z, .slice a n c, .string r]) ∧ EO w B 36 2 (.slice a n c) n (pcF P)
set_option maxRecDepth 100000 in
set_option maxHeartbeats 8000000 in
theorem superOf_t (a : Option Addr) (len cap : Nat) (z : Nat → Nat) (hz : ∀ i, z i < 256) (hl : len ≤ maxLen) (w : World) (h : Code8 w a len z) :
    Calls Tryz.prog 4 #[.slice a len cap] w fun e w' => RetSuOk w.heap.size w' e ∧ Below w.heap.size w w' := by
  have SC : Hid (∀ w : World, Calls Tryz.prog 18 #[.slice a len cap] w fun e w' => e = .returned (.pointer (some ⟨w.heap.size, 0, none⟩)) ∧ Src w' w.heap.size a len cap 0 (len % 1000) ∧ Below w.heap.size w w') := fun w => source_any a len cap hl w
  have LV : Hid (∀ (B b : Nat) (w' : World), SrcT w' b a len cap 0 → Cd w' B b a len z → Calls Tryz.prog 19 #[.pointer (some ⟨b, 0, none⟩)] w' fun e w'' => RetSuN w'.heap.size w'' e ∧ OnlyB b w' w'') := fun B b w' h hc => super_t B b a len cap z w' h hc
  have LN : Hid (∀ w : World, Calls Tryz.prog 21 #[.slice none 0 0] w fun e w' => Ret32 e ∧ Below w.heap.size w w') := fun w => (l03Hash_nil none 0 0 rfl (fun _ => rfl) (fun _ => 0) (fun _ => by omega) w).mono fun _ _ q => ⟨⟨_, hashS_size _ _, q.1⟩, q.2⟩
  have HC : Hid (Code8 w a len z) := h
  have HL : Hid (len ≤ maxLen ∧ ∀ i, z i < 256) := ⟨hl, hz⟩
  have W1 : Hid (Below w.heap.size w (w.alloc (.cells #[.int .i64 0, .slice none 0 0, .string ⟨#[]⟩] 25))) := (Below.refl _ _).alloc (Nat.le_refl _) _
  have X1 : Hid (Box3 (w.alloc (.cells #[.int .i64 0, .slice none 0 0, .string ⟨#[]⟩] 25)) w.heap.size 25 (.int .i64 0) (.slice none 0 0) (.string ⟨#[]⟩)) := Box3.made _ _ _ _ _
  have hs0 : w.heap.size < (w.alloc (.cells #[.int .i64 0, .slice none 0 0, .string ⟨#[]⟩] 25)).heap.size := by simp
  have HS0 : Hid _ := hs0
  clear h hl hz hs0
  go_enter Tryz.func4, Tryz.ntmps4
  go_wp2_with fail
  generalize (w.alloc (.cells #[.int .i64 0, .slice none 0 0, .string ⟨#[]⟩] 25)) = v0 at *
  obtain ⟨pb, hpb⟩ : ∃ x, x = w.heap.size := ⟨_, rfl⟩
  have HPB : Hid (w.heap.size = pb) := hpb.symm
  rw [← hpb] at X1 ⊢
  clear hpb
  refine (SC.out _).mono ?_
  rintro e w1 ⟨rfl, hs, hb⟩
  have HS : Hid (SrcT w1 v0.heap.size a len cap 0) := ⟨0, len % 1000, by omega, by omega, hs⟩
  have B1 : Hid (Below w.heap.size w w1) := W1.out.trans (hb.mono W1.out.size)
  have HD : Hid (Cd w1 w.heap.size v0.heap.size a len z) := cd_of HL.out.2 HL.out.1 HC.out B1.out W1.out.size
  have X2 : Hid (Box3 w1 pb 25 (.int .i64 0) (.slice none 0 0) (.string ⟨#[]⟩)) := X1.out.below hb
  have HNE : Hid (pb ≠ v0.heap.size) := by show _ ≠ _; have := HS0.out; rw [← HPB.out]; omega
  have HV : Hid (w.heap.size ≤ v0.heap.size) := W1.out.size
  clear hs hb SC HC HL X1 W1 HS0
  generalize v0.heap.size = sb at *
  go_wp2_with fail
  refine (LV.out _ _ _ HS.out HD.out).mono ?_
  rintro e w2 ⟨⟨zn, P, r, pa, pc, h1, h2, h32, rfl, ho⟩, hon⟩
  have B2 : Hid (Below w.heap.size w w2) := B1.out.trans (hon.toBelow HV.out B1.out.size)
  have X3 : Hid (Box3 w2 pb 25 (.int .i64 0) (.slice none 0 0) (.string ⟨#[]⟩)) := X2.out.ofBlock (hon.block _ X2.out.lt HNE.out)
  have R2 : Hid (EO w2 w.heap.size 36 2 (.slice pa (pcsN zn) pc) (pcsN zn) (pcF P)) := ho.mono B1.out.size
  have hb : Below w2.heap.size w2 (w2.alloc (.cells #[.int .i64 (zn : Int), .slice pa (pcsN zn) pc, .string r] 25)) := (Below.refl _ _).alloc (Nat.le_refl _) _
  have XS := Box3.made w2 25 (.int .i64 (zn : Int)) (.slice pa (pcsN zn) pc) (.string r)
  have c0 := XS.c0
  have c1 := XS.c1
  have c2 := XS.c2
  replace B2 : Hid (Below w.heap.size w (w2.alloc (.cells #[.int .i64 (zn : Int), .slice pa (pcsN zn) pc, .string r] 25))) := B2.out.trans (hb.mono B2.out.size)
  replace X3 : Hid (Box3 (w2.alloc (.cells #[.int .i64 (zn : Int), .slice pa (pcsN zn) pc, .string r] 25)) pb 25 (.int .i64 0) (.slice none 0 0) (.string ⟨#[]⟩)) := X3.out.below hb
  replace R2 : Hid (EO (w2.alloc (.cells #[.int .i64 (zn : Int), .slice pa (pcsN zn) pc, .string r] 25)) w.heap.size 36 2 (.slice pa (pcsN zn) pc) (pcsN zn) (pcF P)) := R2.out.below hb
  have XH : Hid (Box3 (w2.alloc (.cells #[.int .i64 (zn : Int), .slice pa (pcsN zn) pc, .string r] 25)) w2.heap.size 25 (.int .i64 (zn : Int)) (.slice pa (pcsN zn) pc) (.string r)) := XS
  have pn : pcsN zn ≤ 1048576 := by unfold pcsN; omega
  have SO : Hid (∀ (y : Bool) (w : World), y = gB (SupOk (zn : Int) (pcsN zn) P r) → Els w 2 pa (pcsN zn) (pcF P) → Calls Tryz.prog 20 #[.agg #[.int .i64 (zn : Int), .slice pa (pcsN zn) pc, .string r]] w fun e w' => e = .returned (.bool y) ∧ Below w.heap.size w w') := fun y w hy h => specSupOK_any (zn : Int) pa (pcsN zn) pc P r pn w h y hy
  clear hon ho LV HS HD X2 HNE HV B1 XS h1 h2 pn hb
  generalize pcsN zn = n at *
  go_wp2_with fail
  generalize hW : (w2.alloc (.cells #[.int .i64 (zn : Int), .slice pa n pc, .string r] 25)) = v2 at *
  clear hW c0 c1 c2
  generalize w2.heap.size = xb at *
  by_cases hok : SupOk (zn : Int) n P r
  · refine (SO.out true _ (gB_yes hok).symm R2.out.els).mono ?_
    rintro e w3 ⟨rfl, hb⟩
    have XH3 := XH.out.below hb
    have c0 := XH3.c0
    have c1 := XH3.c1
    have c2 := XH3.c2
    have X4 := X3.out.below hb
    have g0 := X4.c0
    have g1 := X4.c1
    have g2 := X4.c2
    have h0 := X4.fr 0
    have h1 := X4.fr 1
    have h2 := X4.fr 2
    have R3 := R2.out.below hb
    have ob := R3.notBox3 X4
    have FB : Hid (Box3 (((w3.setCell ⟨pb, 0, none⟩ (.int .i64 (zn : Int))).setCell ⟨pb, 1, none⟩ (.slice pa n pc)).setCell ⟨pb, 2, none⟩ (.string r)) pb 25 (.int .i64 (zn : Int)) (.slice pa n pc) (.string r)) := ((X4.set0 _).set1 _).set2 _
    have FR : EO (((w3.setCell ⟨pb, 0, none⟩ (.int .i64 (zn : Int))).setCell ⟨pb, 1, none⟩ (.slice pa n pc)).setCell ⟨pb, 2, none⟩ (.string r)) w.heap.size 36 2 (.slice pa n pc) n (pcF P) := ((R3.keep (fun g e => heap_setOtherS _ _ (ob g e))).keep (fun g e => heap_setOtherS _ _ (ob g e))).keep (fun g e => heap_setOtherS _ _ (ob g e))
    have Q : Hid (RetSuOk w.heap.size (((w3.setCell ⟨pb, 0, none⟩ (.int .i64 (zn : Int))).setCell ⟨pb, 1, none⟩ (.slice pa n pc)).setCell ⟨pb, 2, none⟩ (.string r)) (.returned (.agg #[.int .i64 (zn : Int), .slice pa n pc, .string r]))) := ⟨_, _, _, _, _, _, hok, rfl, FR⟩
    have QB : Hid (Below w.heap.size w (((w3.setCell ⟨pb, 0, none⟩ (.int .i64 (zn : Int))).setCell ⟨pb, 1, none⟩ (.slice pa n pc)).setCell ⟨pb, 2, none⟩ (.string r))) := (((B2.out.trans (hb.mono B2.out.size)).setCell (by rw [HPB.out]; exact Nat.le_refl _) _).setCell (by rw [HPB.out]; exact Nat.le_refl _) _).setCell (by rw [HPB.out]; exact Nat.le_refl _) _
    clear hb XH XH3 X3 X4 R2 R3 ob FR B2 SO LN HPB hok
    go_wp2
    exact ret_cell (b := pb) (v := .agg #[.int .i64 (zn : Int), .slice pa n pc, .string r]) Tryz.results4 rfl FB.out.loadSup ⟨Q.out, QB.out⟩
  · refine (SO.out false _ (gB_no hok).symm R2.out.els).mono ?_
    rintro e w3 ⟨rfl, hb⟩
    replace X3 : Hid (Box3 w3 pb 25 (.int .i64 0) (.slice none 0 0) (.string ⟨#[]⟩)) := X3.out.below hb
    replace B2 : Hid (Below w.heap.size w w3) := B2.out.trans (hb.mono B2.out.size)
    clear hb XH R2 SO hok
    have hb : Below w3.heap.size w3 (w3.alloc (.cells #[.int .i64 5, .int .i64 2] 36)) := (Below.refl _ _).alloc (Nat.le_refl _) _
    have RU : Hid (EO (w3.alloc (.cells #[.int .i64 5, .int .i64 2] 36)) w.heap.size 36 2 (.slice (some ⟨w3.heap.size, 0, none⟩) 1 1) 1 (pcF (fun _ => plU))) := litU w3 _ B2.out.size
    replace X3 : Hid (Box3 (w3.alloc (.cells #[.int .i64 5, .int .i64 2] 36)) pb 25 (.int .i64 0) (.slice none 0 0) (.string ⟨#[]⟩)) := X3.out.below hb
    replace B2 : Hid (Below w.heap.size w (w3.alloc (.cells #[.int .i64 5, .int .i64 2] 36))) := B2.out.trans (hb.mono B2.out.size)
    clear hb
    go_wp2_with fail
    generalize (w3.alloc (.cells #[.int .i64 5, .int .i64 2] 36)) = v3 at *
    generalize w3.heap.size = lb at *
    refine (LN.out _).mono ?_
    rintro e w4 ⟨⟨hh, h32', rfl⟩, hb⟩
    have X4 := X3.out.below hb
    have g0 := X4.c0
    have g1 := X4.c1
    have g2 := X4.c2
    have h0 := X4.fr 0
    have h1 := X4.fr 1
    have h2 := X4.fr 2
    have R3 := RU.out.below hb
    have ob := R3.notBox3 X4
    have FB : Hid (Box3 (((w4.setCell ⟨pb, 0, none⟩ (.int .i64 3)).setCell ⟨pb, 1, none⟩ (.slice (some ⟨lb, 0, none⟩) 1 1)).setCell ⟨pb, 2, none⟩ (.string hh)) pb 25 (.int .i64 3) (.slice (some ⟨lb, 0, none⟩) 1 1) (.string hh)) := ((X4.set0 _).set1 _).set2 _
    have FR : EO (((w4.setCell ⟨pb, 0, none⟩ (.int .i64 3)).setCell ⟨pb, 1, none⟩ (.slice (some ⟨lb, 0, none⟩) 1 1)).setCell ⟨pb, 2, none⟩ (.string hh)) w.heap.size 36 2 (.slice (some ⟨lb, 0, none⟩) 1 1) 1 (pcF (fun _ => plU)) := ((R3.keep (fun g e => heap_setOtherS _ _ (ob g e))).keep (fun g e => heap_setOtherS _ _ (ob g e))).keep (fun g e => heap_setOtherS _ _ (ob g e))
    have Q : Hid (RetSuOk w.heap.size (((w4.setCell ⟨pb, 0, none⟩ (.int .i64 3)).setCell ⟨pb, 1, none⟩ (.slice (some ⟨lb, 0, none⟩) 1 1)).setCell ⟨pb, 2, none⟩ (.string hh)) (.returned (.agg #[.int .i64 3, .slice (some ⟨lb, 0, none⟩) 1 1, .string hh]))) := ⟨_, _, _, _, _, _, supU_ok h32', rfl, FR⟩
    have QB : Hid (Below w.heap.size w (((w4.setCell ⟨pb, 0, none⟩ (.int .i64 3)).setCell ⟨pb, 1, none⟩ (.slice (some ⟨lb, 0, none⟩) 1 1)).setCell ⟨pb, 2, none⟩ (.string hh))) := (((B2.out.trans (hb.mono B2.out.size)).setCell (by rw [HPB.out]; exact Nat.le_refl _) _).setCell (by rw [HPB.out]; exact Nat.le_refl _) _).setCell (by rw [HPB.out]; exact Nat.le_refl _) _
    clear hb X3 X4 RU R3 ob FR B2 LN HPB h32'
    go_wp2
    exact ret_cell (b := pb) (v := .agg #[.int .i64 3, .slice (some ⟨lb, 0, none⟩) 1 1, .string hh]) Tryz.results4 rfl FB.out.loadSup ⟨Q.out, QB.out⟩
def keyX (i : Nat) : Nat := if i = 0 then 107 else if i = 1 then 101 else 121
theorem keyX_lt (i : Nat) : keyX i < 256 := by unfold keyX; split; omega; split; omega; omega
theorem key_code (w : World) : Code8 (w.alloc (.cells #[.int .u8 107, .int .u8 101, .int .u8 121] 5 (3, 4))) (some ⟨w.heap.size, 0, none⟩) 3 keyX := code8_of (fun i hi => by
  rw [Nat.zero_add, World.cell?_alloc_mark]
  rcases (show i = 0 ∨ i = 1 ∨ i = 2 by omega) with rfl | rfl | rfl <;> (simp [keyX]))
def keyT : ByteArray := hashS 3 keyX
theorem keyT_size : keyT.size = 32 := hashS_size _ _
set_option maxRecDepth 100000 in
theorem keyOf_any (w : World) : Calls Tryz.prog 14 #[] w fun e w' => e = .returned (.string keyT) ∧ Below w.heap.size w w' := by
  have LH : Hid (∀ (g : Nat) (w : World), Code8 w (some ⟨g, 0, none⟩) 3 keyX → Calls Tryz.prog 21 #[.slice (some ⟨g, 0, none⟩) 3 3] w fun e w' => e = .returned (.string keyT) ∧ Below w.heap.size w w') := fun g w h => l03Hash_any g 0 3 3 keyX keyX_lt (by omega) w h
  have W1 : Hid (Below w.heap.size w (w.alloc (.cells #[.int .u8 107, .int .u8 101, .int .u8 121] 5 (3, 4)))) := (Below.refl _ _).alloc (Nat.le_refl _) _
  have K1 : Hid (Code8 (w.alloc (.cells #[.int .u8 107, .int .u8 101, .int .u8 121] 5 (3, 4))) (some ⟨w.heap.size, 0, none⟩) 3 keyX) := key_code w
  have cv := conv_rowS w #[.int .u8 107, .int .u8 101, .int .u8 121] 3 3
  generalize keyT = K at *
  go_enter Tryz.func14, Tryz.ntmps14
  go_wp2_with fail
  clear cv
  generalize (w.alloc (.cells #[.int .u8 107, .int .u8 101, .int .u8 121] 5 (3, 4))) = v at *
  refine (LH.out _ _ K1.out).mono ?_
  rintro e w1 ⟨rfl, hb⟩
  have Q : Hid (Below w.heap.size w w1) := W1.out.trans (hb.mono W1.out.size)
  clear hb LH K1 W1
  go_wp2
  go_ret
  exact ⟨rfl, Q.out⟩
end Go.Proofs.YtkmakpbphdjbcaaGreatDoor
