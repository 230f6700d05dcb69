/-
  Roots: leafRoot, nodeRoot, the fold, rootOver, LeafRoot of the program (written by tools/mktree.py).
-/
import Derived.Test.YtpljdlgjeeikkaaDoorTreeM
import Derived.Test.YtpljdlgjeeikkaaDoorInsJ
namespace Go.Proofs.YtpljdlgjeeikkaaDoor
open Go.ChangeShapes Go.WideShapes Go.ChangeAt Go.RowKit
set_option linter.unusedVariables false
theorem lit_own (w : World) (x : Nat) : (w.alloc (.cells #[.int .u8 (x : Int)] 5)).ownsRow w.heap.size 5 1 (.slice (some ⟨w.heap.size, 0, none⟩) 1 1) 1 (bv 1 (fun _ => x)) :=
  ⟨rfl, .inr ⟨w.heap.size, 1, #[.int .u8 (x : Int)], rfl, Nat.le_refl _, heap_alloc_new w _, Nat.le_refl _, by unfold maxLen; omega, rfl, rfl⟩⟩
theorem catB (n : Nat) (F : Nat → Nat) (s : ByteArray) : bv n F ++ Lib.strCells s = bv (n + s.size) (Sha.cat n F (strB s)) := by
  rw [strCells_bv, bv_append]
  rfl
theorem bvC {n : Nat} {F G : Nat → Nat} (h : ∀ i, i < n → F i = G i) : bv n F = bv n G := List.map_congr_left (fun i hi => by rw [h i (List.mem_range.1 hi)])
theorem grownB {B b : Nat} {w w' : World} (hB : B ≤ b) (hs : B ≤ w.heap.size) (h : w.grownBy w' (some b)) : Below B w w' := (Below.refl B w).grown h hs (fun k hk => by cases hk; exact hB)
set_option maxRecDepth 100000 in
set_option maxHeartbeats 2000000 in
theorem leafRoot_any (x : Lf) (hx : x.Ok) (w : World) (ht : Tabs w) :
    Calls Tryd.prog 32 #[.agg #[.int .i64 x.v, .string x.h]] w fun e w' => e = .returned (.string (leafT x)) ∧ Below w.heap.size w w' := by
  obtain ⟨i0, hi⟩ := info_parts Tryd.info8
  have HI : Hid (Tryd.prog.info? 5 = some i0 ∧ i0.zero = some (.int .u8 0) ∧ i0.size = 1 ∧ i0.bytes = 1) := hi
  obtain ⟨k, hk⟩ : ∃ k : Nat, x.v = (k : Int) := ⟨x.v.toNat, by have := hx.1.1; omega⟩
  have hs : x.h.size ≤ 100 := by have := hx.2; omega
  have HL : Hid (bv 5 (numF 1 4 k (fun _ => 0)) ++ Lib.strCells x.h = bv (5 + x.h.size) (strB (leafX x))) := by
    show _ = _
    rw [catB, show k = x.v.toNat from by omega]
    exact bvC (fun i hi => leafX_is x _ rfl i hi)
  have HH : Hid (∀ (b c : Nat) (w : World), Code8 w (some ⟨b, 0, none⟩) (5 + x.h.size) (strB (leafX x)) → Tabs w → Calls Tryd.prog 39 #[.slice (some ⟨b, 0, none⟩) (5 + x.h.size) c] w fun e w' => e = .returned (.string (leafT x)) ∧ Below w.heap.size w w') := fun b c w h ht => by
    have := hashed_any b 0 (5 + x.h.size) c (strB (leafX x)) (strB_lt _) (by omega) w h ht
    rwa [← leafX_size] at this ⊢
  obtain ⟨v, s⟩ := x
  dsimp only at hk hs HL HH ⊢
  subst hk
  generalize leafT ⟨(k : Int), s⟩ = RT at *
  generalize strB (leafX ⟨(k : Int), s⟩) = LX at *
  have AN : Hid (∀ (w : World) (g : Nat), g ≤ w.heap.size → w.ownsRow g 5 1 (.slice (some ⟨g, 0, none⟩) 1 1) 1 (bv 1 (fun _ => 0)) → Calls Tryd.prog 38 #[.slice (some ⟨g, 0, none⟩) 1 1, .int .i64 (k : Int), .int .i64 4] w fun e w' => RetO g w' e 5 (numF 1 4 k (fun _ => 0)) ∧ Below g w w') := fun w g hg h => appendNumber_any g g 1 1 k 4 (fun _ => 0) (by omega) (by omega) w hg h
  generalize numF 1 4 k (fun _ => 0) = NF at *
  have T0 : Hid (Tabs w) := ht
  have W1 : Below w.heap.size w (w.alloc (.cells #[.int .i64 (k : Int), .string s] 26)) := (Below.refl _ _).alloc (Nat.le_refl _) _
  have X1 := Box2.made w 26 (.int .i64 (k : Int)) (.string s)
  have s1 : (w.alloc (.cells #[.int .i64 (k : Int), .string s] 26)).heap.size = w.heap.size + 1 := by simp
  have O2 := lit_own (w.alloc (.cells #[.int .i64 (k : Int), .string s] 26)) 0
  rw [s1] at O2
  have W2 : Below w.heap.size w ((w.alloc (.cells #[.int .i64 (k : Int), .string s] 26)).alloc (.cells #[.int .u8 0] 5)) := W1.alloc (by rw [s1]; omega) _
  have X2 : Box2 ((w.alloc (.cells #[.int .i64 (k : Int), .string s] 26)).alloc (.cells #[.int .u8 0] 5)) w.heap.size 26 (.int .i64 (k : Int)) (.string s) := X1.alloc _
  have s2 : w.heap.size + 1 ≤ ((w.alloc (.cells #[.int .i64 (k : Int), .string s] 26)).alloc (.cells #[.int .u8 0] 5)).heap.size := by simp
  have HO2 : Hid _ := O2
  have HW2 : Hid _ := W2
  have HX2 : Hid _ := X2
  have HS2 : Hid _ := s2
  clear hi hx ht W1 X1 s1 O2 W2 X2 s2
  go_enter Tryd.func32, Tryd.ntmps32
  go_wp2_with fail
  generalize ((w.alloc (.cells #[.int .i64 (k : Int), .string s] 26)).alloc (.cells #[.int .u8 0] 5)) = v2 at *
  refine (AN.out _ _ HS2.out HO2.out).mono ?_
  rintro e v3 ⟨⟨g, c, rfl, hown⟩, hb⟩
  have X3 : Box2 v3 w.heap.size 26 (.int .i64 (k : Int)) (.string s) := Box2.ofBlock HX2.out (hb.block _ (by omega))
  have HW3 : Hid (Below w.heap.size w v3) := HW2.out.trans (hb.mono (by omega))
  have HO3 : Hid (v3.ownsRow (w.heap.size + 1) 5 1 (.slice (some ⟨g, 0, none⟩) 5 c) 5 (bv 5 NF)) := hown
  have hsz : w.heap.size + 1 ≤ v3.heap.size := Nat.le_trans HS2.out hb.size
  have hg1 : w.heap.size + 1 ≤ g := (World.ownsRow.lt hown g rfl).1
  have x0 := X3.c0
  have x1 := X3.c1
  clear hb hown HO2 HW2 HX2 HS2 X3 AN
  go_wp2_with (at_builtin; refine Lib.wpList_append_own_string _ rfl _ _ 22 9 rfl (w.heap.size + 1) 5 i0 Tryd.underlying22 Tryd.underlying9 HI.out.1 HI.out.2.1 HI.out.2.2.1 HI.out.2.2.2 (.slice (some ⟨g, 0, none⟩) 5 c) 5 _ rfl HO3.out s rfl (by unfold maxLen; omega) (by omega) hsz ?_)
  intro v4 w4 hown4 hgrow4 hnil4
  rw [HL.out] at hown4
  have W4 : Hid (Below w.heap.size w w4) := HW3.out.trans (grownB (b := g) (by omega) (by omega) hgrow4)
  obtain ⟨g4, c4, ⟨_, _⟩, rfl, ho8⟩ := own8_of_own (n := 5 + s.size) hown4 hnil4
  have K4 : Hid (Code8 w4 (some ⟨g4, 0, none⟩) (5 + s.size) LX) := ho8.code
  clear hown4 hgrow4 hnil4 ho8 HO3 HW3 hsz hg1 x0 x1 HI HL
  go_wp2_with fail
  refine (HH.out g4 c4 _ K4.out (T0.out.below W4.out)).mono ?_
  rintro e w5 ⟨rfl, hb⟩
  have W5 : Hid (Below w.heap.size w w5) := W4.out.trans (hb.mono W4.out.size)
  clear hb K4 W4 HH
  go_wp2
  go_ret
  exact ⟨rfl, W5.out⟩
set_option maxRecDepth 100000 in
set_option maxHeartbeats 2000000 in
theorem nodeRoot_any (a b : ByteArray) (ha : a.size ≤ 100) (hb : b.size ≤ 100) (w : World) (ht : Tabs w) :
    Calls Tryd.prog 33 #[.string a, .string b] w fun e w' => e = .returned (.string (nodeT a b)) ∧ Below w.heap.size w w' := by
  obtain ⟨i0, hi⟩ := info_parts Tryd.info8
  have HI : Hid (Tryd.prog.info? 5 = some i0 ∧ i0.zero = some (.int .u8 0) ∧ i0.size = 1 ∧ i0.bytes = 1) := hi
  have HL0 : Hid (bv 1 (fun _ => 1) ++ Lib.strCells a = bv (1 + a.size) (Sha.cat 1 (fun _ => 1) (strB a))) := catB _ _ _
  have HL : Hid (bv (1 + a.size) (Sha.cat 1 (fun _ => 1) (strB a)) ++ Lib.strCells b = bv (1 + a.size + b.size) (strB (nodeX a b))) := by
    show _ = _
    rw [catB]
    exact bvC (fun i hi => nodeX_is a b _ rfl i hi)
  have HH : Hid (∀ (g c : Nat) (w : World), Code8 w (some ⟨g, 0, none⟩) (1 + a.size + b.size) (strB (nodeX a b)) → Tabs w → Calls Tryd.prog 39 #[.slice (some ⟨g, 0, none⟩) (1 + a.size + b.size) c] w fun e w' => e = .returned (.string (nodeT a b)) ∧ Below w.heap.size w w') := fun g c w h ht => by
    have := hashed_any g 0 (1 + a.size + b.size) c (strB (nodeX a b)) (strB_lt _) (by omega) w h ht
    rwa [← nodeX_size] at this ⊢
  generalize nodeT a b = RT at *
  generalize strB (nodeX a b) = NX at *
  generalize Sha.cat 1 (fun _ => 1) (strB a) = C1 at *
  have T0 : Hid (Tabs w) := ht
  have O1 : Hid _ := lit_own w 1
  have W1 : Hid (Below w.heap.size w (w.alloc (.cells #[.int .u8 1] 5))) := (Below.refl _ _).alloc (Nat.le_refl _) _
  have hsz : w.heap.size ≤ (w.alloc (.cells #[.int .u8 1] 5)).heap.size := by simp
  clear hi ht
  go_enter Tryd.func33, Tryd.ntmps33
  go_wp2_with (at_builtin; refine Lib.wpList_append_own_string _ rfl _ _ 22 9 rfl w.heap.size 5 i0 Tryd.underlying22 Tryd.underlying9 HI.out.1 HI.out.2.1 HI.out.2.2.1 HI.out.2.2.2 (.slice (some ⟨w.heap.size, 0, none⟩) 1 1) 1 _ rfl O1.out a rfl (by unfold maxLen; omega) (by omega) hsz ?_)
  intro v2 w2 hown2 hgrow2 hnil2
  rw [HL0.out] at hown2
  have W2 : Hid (Below w.heap.size w w2) := W1.out.trans (grownB (b := w.heap.size) (by omega) (by omega) hgrow2)
  have hsz2 : w.heap.size ≤ w2.heap.size := W2.out.size
  obtain ⟨g2, c2, ⟨hg2, _⟩, rfl, _⟩ := own8_of_own (n := 1 + a.size) hown2 hnil2
  have O2 : Hid _ := hown2
  clear hown2 hgrow2 hnil2 O1 W1 hsz HL0
  go_wp2_with (at_builtin; refine Lib.wpList_append_own_string _ rfl _ _ 22 9 rfl w.heap.size 5 i0 Tryd.underlying22 Tryd.underlying9 HI.out.1 HI.out.2.1 HI.out.2.2.1 HI.out.2.2.2 (.slice (some ⟨g2, 0, none⟩) (1 + a.size) c2) (1 + a.size) _ rfl O2.out b rfl (by unfold maxLen; omega) (by omega) hsz2 ?_)
  intro v3 w3 hown3 hgrow3 hnil3
  rw [HL.out] at hown3
  have W3 : Hid (Below w.heap.size w w3) := W2.out.trans (grownB (b := g2) (World.ownsRow.lt O2.out g2 rfl).1 hsz2 hgrow3)
  obtain ⟨g3, c3, ⟨_, _⟩, rfl, ho8⟩ := own8_of_own (n := 1 + a.size + b.size) hown3 hnil3
  have K3 : Hid (Code8 w3 (some ⟨g3, 0, none⟩) (1 + a.size + b.size) NX) := ho8.code
  clear hown3 hgrow3 hnil3 ho8 O2 W2 hsz2 hg2 HI HL
  go_wp2_with fail
  refine (HH.out g3 c3 _ K3.out (T0.out.below W3.out)).mono ?_
  rintro e w5 ⟨rfl, hb⟩
  have W5 : Hid (Below w.heap.size w w5) := W3.out.trans (hb.mono W3.out.size)
  clear hb K3 W3 HH
  go_wp2
  go_ret
  exact ⟨rfl, W5.out⟩
theorem greaterHalf_any (n : Nat) (hn : n ≤ 1000) (w : World) : Calls Tryd.prog 47 #[.int .i64 (n : Int)] w fun e w' => e = .returned (.int .i64 ((gh n : Nat) : Int)) ∧ w = w' := by
  have e2 : ((n : Int) + 1) / 2 = ((gh n : Nat) : Int) := by unfold gh; omega
  have HG : Hid (((n : Int) + 1) / 2 = ((gh n : Nat) : Int)) := e2
  generalize gh n = G at *
  clear e2
  go_enter Tryd.func47, Tryd.ntmps47
  go_wp2
  go_ret
  exact ⟨by rw [← HG.out]; rfl, rfl⟩
theorem leaf_elem : Tryd.prog.elem 23 = 26 := by kernel_rfl
theorem leaf_under : Tryd.prog.underlying 23 = some (.slice (Tryd.prog.elem 23)) := by rw [leaf_elem]; exact Tryd.underlying23
theorem leaf_sizeOf (w : World) : (sizeOf (Tryd.prog.elem 23)).run Tryd.prog w = .ok 2 w := by
  obtain ⟨i, hi, hz, hsz, hby⟩ := info_parts Tryd.infoLf
  simp [sizeOf, typeInfo, leaf_elem, hi, hsz]
set_option maxRecDepth 100000 in
set_option maxHeartbeats 4000000 in
theorem folded_any (n : Nat) : ∀ (b off c : Nat) (LF : Nat → Lf), 1 ≤ n → n ≤ 32 → n ≤ c → c ≤ maxLen → (∀ i, i < n → (LF i).Ok) → ∀ w : World, Els w 2 (some ⟨b, off, none⟩) n (lfF LF) → Tabs w →
    Calls Tryd.prog 43 #[.slice (some ⟨b, off, none⟩) n c, .func (.func 32) #[] #[], .func (.func 33) #[] #[]] w fun e w' => e = .returned (.string (treeT LF 0 n)) ∧ Below w.heap.size w w' := by
  induction n using Nat.strongRecOn with
  | ind n ih =>
    intro b off c LF h1 h32 hc hcm hok w h ht
    rcases (show n = 1 ∨ 2 ≤ n by omega) with rfl | h2
    · rw [treeT_one]
      have LR : Hid (Calls Tryd.prog 32 #[.agg #[.int .i64 (LF 0).v, .string (LF 0).h]] w fun e w' => e = .returned (.string (leafT (LF 0))) ∧ Below w.heap.size w w') := leafRoot_any _ (hok 0 (by omega)) w ht
      obtain ⟨b', off', e, hcc⟩ := h 0 (by omega)
      cases e
      have c0 := hcc 0 (by omega)
      have c1 := hcc 1 (by omega)
      simp only [lfF, lfV, Nat.zero_mul, Nat.add_zero] at c0 c1
      generalize leafT (LF 0) = RT at *
      clear h hok ht hcc ih
      go_enter Tryd.func43, Tryd.ntmps43
      go_wp2_with fail
      refine LR.out.mono ?_
      rintro e w1 ⟨rfl, hb⟩
      have B1 : Hid (Below w.heap.size w w1) := hb
      clear hb LR c0 c1
      go_wp2
      go_ret
      exact ⟨rfl, B1.out⟩
    · have g1 := gh_lt h2
      have g0 := gh_pos (n := n) (by omega)
      have SP : SlP (some ⟨b, off, none⟩) n c := ⟨(fun e => by cases e), .inr ⟨b, off, rfl⟩, hc, hcm⟩
      obtain ⟨k, hk⟩ : ∃ k, k = gh n := ⟨_, rfl⟩
      have CT := run_cut_to (P := Tryd.prog) 23 leaf_under 2 leaf_sizeOf SP k (by omega)
      have CF := run_cut_from (P := Tryd.prog) 23 leaf_under 2 leaf_sizeOf SP k (by omega)
      have hcut : cutA (some ⟨b, off, none⟩) c k 2 = some ⟨b, off + k * 2, none⟩ := by
        unfold cutA
        rw [if_neg (by omega)]
        exact congrArg some (Go.WideShapes.add_plain ..)
      rw [hcut] at CF
      have GH : Hid (∀ w : World, Calls Tryd.prog 47 #[.int .i64 (n : Int)] w fun e w' => e = .returned (.int .i64 (k : Int)) ∧ w = w') := fun w => by rw [hk]; exact greaterHalf_any n (by omega) w
      have F1 : Hid (∀ w : World, Els w 2 (some ⟨b, off, none⟩) n (lfF LF) → Tabs w → Calls Tryd.prog 43 #[.slice (some ⟨b, off, none⟩) k c, .func (.func 32) #[] #[], .func (.func 33) #[] #[]] w fun e w' => e = .returned (.string (treeT LF 0 k)) ∧ Below w.heap.size w w') := fun w h ht => ih k (by omega) b off c LF (by omega) (by omega) (by omega) hcm (fun i hi => hok i (by omega)) w (h.less (by omega)) ht
      have F2 : Hid (∀ w : World, Els w 2 (some ⟨b, off, none⟩) n (lfF LF) → Tabs w → Calls Tryd.prog 43 #[.slice (some ⟨b, off + k * 2, none⟩) (n - k) (c - k), .func (.func 32) #[] #[], .func (.func 33) #[] #[]] w fun e w' => e = .returned (.string (treeT LF k (n - k))) ∧ Below w.heap.size w w') := fun w h ht => by
        have := ih (n - k) (by omega) b (off + k * 2) (c - k) (fun i => LF (k + i)) (by omega) (by omega) (by omega) (by omega) (fun i hi => hok _ (by omega)) w (h.behind k (by omega)) ht
        rwa [treeT_congr (F := fun i => LF (k + i)) (G := LF) (o := 0) (p := k) (fun i hi => by rw [Nat.zero_add])] at this
      have NR : Hid (∀ w : World, Tabs w → Calls Tryd.prog 33 #[.string (treeT LF 0 k), .string (treeT LF k (n - k))] w fun e w' => e = .returned (.string (treeT LF 0 n)) ∧ Below w.heap.size w w') := fun w ht => by
        have := nodeRoot_any (treeT LF 0 k) (treeT LF k (n - k)) (by rw [treeT_size]; omega) (by rw [treeT_size]; omega) w ht
        rw [hk] at this ⊢
        rw [treeT_two _ _ _ h2, Nat.zero_add]
        exact this
      generalize treeT LF 0 n = RT at *
      generalize treeT LF 0 k = R1 at *
      generalize treeT LF k (n - k) = R2 at *
      have HT : Hid (Tabs w) := ht
      have HE : Hid (Els w 2 (some ⟨b, off, none⟩) n (lfF LF)) := h
      have ne : ((n : Int) == 1) = false := by simp; omega
      have dk : ((n : Int) - (k : Int)).toNat = n - k := by omega
      have CT' : Hid _ := CT
      have CF' : Hid _ := CF
      clear h ht hok ih hcut SP hk g1 g0 CT CF
      go_enter Tryd.func43, Tryd.ntmps43
      go_wp2_with fail
      refine (GH.out _).mono ?_
      rintro e w1 ⟨rfl, rfl⟩
      go_upto_region 4 with fail
      have H : Below w.heap.size w w.drew := (Below.refl _ _).drew
      refine wp_region_noPanic ?_
      refine wp_region_held_drew (S := fun w' => Below w.heap.size w w') (by kernel_rfl) H (fun _ => ?_)
      generalize w.drew = x0 at *
      refine wpAnyH_take (i := 0) (v := .func (.func 33) #[] #[]) rfl (by kernel_rfl) (by kernel_rfl) (by kernel_rfl) (fun _ _ _ h => h) (Or.inl ⟨by rfl, ?_⟩) H ?_
      · intro w' hSw; go_simp
      change wpAnyH _ _ _ _ _ _ _ { tmps := #[_, _, _, _, _, _, _, _, _, _, _, _, _, _, _, _, _, _, _, _, _, _, _, _, _, _, _, _, _, _, _, _, _], defers := _ } _
      refine wpAnyH_take (i := 1) (v := .slice (some ⟨b, off, none⟩) n c) rfl (by kernel_rfl) (by kernel_rfl) (by kernel_rfl) (fun _ _ _ h => h) (Or.inl ⟨by rfl, ?_⟩) H ?_
      · intro w' hSw; go_simp
      change wpAnyH _ _ _ _ _ _ _ { tmps := #[_, _, _, _, _, _, _, _, _, _, _, _, _, _, _, _, _, _, _, _, _, _, _, _, _, _, _, _, _, _, _, _, _], defers := _ } _
      refine wpAnyH_take (i := 2) (v := .int .i64 (k : Int)) rfl (by kernel_rfl) (by kernel_rfl) (by kernel_rfl) (fun _ _ _ h => h) (Or.inl ⟨by rfl, ?_⟩) H ?_
      · intro w' hSw; go_simp
      change wpAnyH _ _ _ _ _ _ _ { tmps := #[_, _, _, _, _, _, _, _, _, _, _, _, _, _, _, _, _, _, _, _, _, _, _, _, _, _, _, _, _, _, _, _, _], defers := _ } _
      refine wpAnyH_take (i := 3) (v := .slice (some ⟨b, off, none⟩) k c) rfl (by kernel_rfl) (by kernel_rfl) (by kernel_rfl) (fun _ _ _ h => h) (Or.inl ⟨by rfl, ?_⟩) H ?_
      · intro w' hSw; have CC := CT'.out; go_simp
      change wpAnyH _ _ _ _ _ _ _ { tmps := #[_, _, _, _, _, _, _, _, _, _, _, _, _, _, _, _, _, _, _, _, _, _, _, _, _, _, _, _, _, _, _, _, _], defers := _ } _
      refine wpAnyH_take (i := 4) (v := .func (.func 32) #[] #[]) rfl (by kernel_rfl) (by kernel_rfl) (by kernel_rfl) (fun _ _ _ h => h) (Or.inl ⟨by rfl, ?_⟩) H ?_
      · intro w' hSw; go_simp
      change wpAnyH _ _ _ _ _ _ _ { tmps := #[_, _, _, _, _, _, _, _, _, _, _, _, _, _, _, _, _, _, _, _, _, _, _, _, _, _, _, _, _, _, _, _, _], defers := _ } _
      refine wpAnyH_take (i := 5) (v := .func (.func 33) #[] #[]) rfl (by kernel_rfl) (by kernel_rfl) (by kernel_rfl) (fun _ _ _ h => h) (Or.inl ⟨by rfl, ?_⟩) H ?_
      · intro w' hSw; go_simp
      change wpAnyH _ _ _ _ _ _ _ { tmps := #[_, _, _, _, _, _, _, _, _, _, _, _, _, _, _, _, _, _, _, _, _, _, _, _, _, _, _, _, _, _, _, _, _], defers := _ } _
      refine wpAnyH_take (i := 7) (v := .slice (some ⟨b, off, none⟩) n c) rfl (by kernel_rfl) (by kernel_rfl) (by kernel_rfl) (fun _ _ _ h => h) (Or.inl ⟨by rfl, ?_⟩) H ?_
      · intro w' hSw; go_simp
      change wpAnyH _ _ _ _ _ _ _ { tmps := #[_, _, _, _, _, _, _, _, _, _, _, _, _, _, _, _, _, _, _, _, _, _, _, _, _, _, _, _, _, _, _, _, _], defers := _ } _
      refine wpAnyH_take (i := 8) (v := .int .i64 (k : Int)) rfl (by kernel_rfl) (by kernel_rfl) (by kernel_rfl) (fun _ _ _ h => h) (Or.inl ⟨by rfl, ?_⟩) H ?_
      · intro w' hSw; go_simp
      change wpAnyH _ _ _ _ _ _ _ { tmps := #[_, _, _, _, _, _, _, _, _, _, _, _, _, _, _, _, _, _, _, _, _, _, _, _, _, _, _, _, _, _, _, _, _], defers := _ } _
      refine wpAnyH_take (i := 9) (v := .slice (some ⟨b, off + k * 2, none⟩) (n - k) (c - k)) rfl (by kernel_rfl) (by kernel_rfl) (by kernel_rfl) (fun _ _ _ h => h) (Or.inl ⟨by rfl, ?_⟩) H ?_
      · intro w' hSw; have CC := CF'.out; go_simp
      change wpAnyH _ _ _ _ _ _ _ { tmps := #[_, _, _, _, _, _, _, _, _, _, _, _, _, _, _, _, _, _, _, _, _, _, _, _, _, _, _, _, _, _, _, _, _], defers := _ } _
      refine wpAnyH_take (i := 10) (v := .func (.func 32) #[] #[]) rfl (by kernel_rfl) (by kernel_rfl) (by kernel_rfl) (fun _ _ _ h => h) (Or.inl ⟨by rfl, ?_⟩) H ?_
      · intro w' hSw; go_simp
      change wpAnyH _ _ _ _ _ _ _ { tmps := #[_, _, _, _, _, _, _, _, _, _, _, _, _, _, _, _, _, _, _, _, _, _, _, _, _, _, _, _, _, _, _, _, _], defers := _ } _
      refine wpAnyH_take (i := 11) (v := .func (.func 33) #[] #[]) rfl (by kernel_rfl) (by kernel_rfl) (by kernel_rfl) (fun _ _ _ h => h) (Or.inl ⟨by rfl, ?_⟩) H ?_
      · intro w' hSw; go_simp
      change wpAnyH _ _ _ _ _ _ _ { tmps := #[_, _, _, _, _, _, _, _, _, _, _, _, _, _, _, _, _, _, _, _, _, _, _, _, _, _, _, _, _, _, _, _, _], defers := _ } _
      refine wpAnyH_ready (rs := [6]) (by kernel_rfl) (by simp) ?_
      refine AllReadyH.cons rfl (fun KK hK => ?_) AllReadyH.nil
      go_simp
      refine (F1.out _ (HE.out.below H) (HT.out.below H)).mono ?_
      rintro e x1 ⟨rfl, hb⟩
      replace H : Below w.heap.size w x1 := H.trans (hb.mono H.size)
      clear hb
      refine hK.out _ _ H (fun _ => ?_)
      clear hK KK
      change wpAnyH _ _ _ _ _ _ _ { tmps := #[_, _, _, _, _, _, _, _, _, _, _, _, _, _, _, _, _, _, _, _, _, _, _, _, _, _, _, _, _, _, _, _, _], defers := _ } _
      refine wpAnyH_ready (rs := [12]) (by kernel_rfl) (by simp) ?_
      refine AllReadyH.cons rfl (fun KK hK => ?_) AllReadyH.nil
      go_simp
      refine (F2.out _ (HE.out.below H) (HT.out.below H)).mono ?_
      rintro e x2 ⟨rfl, hb⟩
      replace H : Below w.heap.size w x2 := H.trans (hb.mono H.size)
      clear hb
      refine hK.out _ _ H (fun _ => ?_)
      clear hK KK
      change wpAnyH _ _ _ _ _ _ _ { tmps := #[_, _, _, _, _, _, _, _, _, _, _, _, _, _, _, _, _, _, _, _, _, _, _, _, _, _, _, _, _, _, _, _, _], defers := _ } _
      refine wpAnyH_ready (rs := [13]) (by kernel_rfl) (by simp) ?_
      refine AllReadyH.cons rfl (fun KK hK => ?_) AllReadyH.nil
      go_simp
      refine (NR.out _ (HT.out.below H)).mono ?_
      rintro e x3 ⟨rfl, hb⟩
      replace H : Below w.heap.size w x3 := H.trans (hb.mono H.size)
      clear hb
      refine hK.out _ _ H (fun _ => ?_)
      clear hK KK
      change wpAnyH _ _ _ _ _ _ _ { tmps := #[_, _, _, _, _, _, _, _, _, _, _, _, _, _, _, _, _, _, _, _, _, _, _, _, _, _, _, _, _, _, _, _, _], defers := _ } _
      refine wpAnyH_take (i := 14) (v := .string RT) rfl (by kernel_rfl) (by kernel_rfl) (by kernel_rfl) (fun _ _ _ h => h) (Or.inl ⟨by rfl, ?_⟩) H ?_
      · intro w' hSw; go_simp
      change wpAnyH _ _ _ _ _ _ _ { tmps := #[_, _, _, _, _, _, _, _, _, _, _, _, _, _, _, _, _, _, _, _, _, _, _, _, _, _, _, _, _, _, _, _, _], defers := _ } _
      refine wpAnyH_done (by kernel_rfl) ?_ _
      refine NoPanic.normal ?_
      have B1 : Hid (Below w.heap.size w x3) := H
      clear H HE HT F1 F2 NR GH CT' CF' ne dk
      go_wp2
      go_ret
      exact ⟨rfl, B1.out⟩
set_option maxRecDepth 100000 in
theorem rootOver_any (a : Option Addr) (n c : Nat) (LF : Nat → Lf) (h32 : n ≤ 32) (hc : n ≤ c) (hcm : c ≤ maxLen) (hok : ∀ i, i < n → (LF i).Ok) (w : World) (h : Els w 2 a n (lfF LF)) (ht : Tabs w) :
    Calls Tryd.prog 22 #[.slice a n c] w fun e w' => e = .returned (.string (treeT LF 0 n)) ∧ Below w.heap.size w w' := by
  rcases Nat.eq_zero_or_pos n with rfl | hp
  · rw [treeT_none]
    have HH : Hid (∀ (b : Nat) (w : World), Code8 w (some ⟨b, 0, none⟩) 1 (fun _ => 2) → Tabs w → Calls Tryd.prog 39 #[.slice (some ⟨b, 0, none⟩) 1 1] w fun e w' => e = .returned (.string noneT) ∧ Below w.heap.size w w') := fun b w h ht => by
      have h' : Code8 w (some ⟨b, 0, none⟩) 1 (strB ⟨#[2]⟩) := fun i hi => by
        obtain rfl : i = 0 := by omega
        exact h 0 (by omega)
      exact hashed_any _ 0 1 1 (strB ⟨#[2]⟩) (strB_lt _) (by omega) w h' ht
    have K : Hid (Code8 (w.alloc (.cells #[.int .u8 2] 5)) (some ⟨w.heap.size, 0, none⟩) 1 (fun _ => 2)) := code8_of (fun i hi => by
      obtain rfl : i = 0 := by omega
      simp)
    have HB : Hid (Below w.heap.size w (w.alloc (.cells #[.int .u8 2] 5))) := (Below.refl _ _).alloc (Nat.le_refl _) _
    have HT : Hid (Tabs (w.alloc (.cells #[.int .u8 2] 5))) := ht.below HB.out
    have HC := HH.out _ _ K.out HT.out
    have HC' : Hid _ := HC
    generalize noneT = RT at *
    clear HH h ht hok K HT HC
    go_enter Tryd.func22, Tryd.ntmps22
    go_wp2_with fail
    refine Calls.mono HC'.out ?_
    rintro e w1 ⟨rfl, hb⟩
    have B1 : Hid (Below w.heap.size w w1) := HB.out.trans (hb.mono HB.out.size)
    clear hb HC' HB
    go_wp2
    go_ret
    exact ⟨rfl, B1.out⟩
  · obtain ⟨b, off, rfl, _⟩ := h.opened hp
    have FD : Hid (Calls Tryd.prog 43 #[.slice (some ⟨b, off, none⟩) n c, .func (.func 32) #[] #[], .func (.func 33) #[] #[]] w fun e w' => e = .returned (.string (treeT LF 0 n)) ∧ Below w.heap.size w w') := folded_any n b off c LF (by omega) h32 hc hcm hok w h ht
    have ne : ((n : Int) == 0) = false := by simp; omega
    generalize treeT LF 0 n = RT at *
    clear h ht hok
    go_enter Tryd.func22, Tryd.ntmps22
    go_wp2_with fail
    refine FD.out.mono ?_
    rintro e w1 ⟨rfl, hb⟩
    have B1 : Hid (Below w.heap.size w w1) := hb
    clear hb FD
    go_wp2
    go_ret
    exact ⟨rfl, B1.out⟩
/-- What LeafRoot answers. -/
noncomputable def rootA (n : Nat) (LF : Nat → Lf) : ByteArray := if tB (LsOk n LF) then treeT LF 0 n else ⟨#[]⟩
theorem lsCode_cases (n : Nat) (LF : Nat → Lf) : (LsOk n LF ∧ lsCode n LF = 0 ∧ rootA n LF = treeT LF 0 n) ∨ (¬ LsOk n LF ∧ (lsCode n LF = 1 ∨ lsCode n LF = 2) ∧ rootA n LF = ⟨#[]⟩) := by
  unfold lsCode rootA
  by_cases h : LsOk n LF
  · refine .inl ⟨h, ?_, ?_⟩
    · rw [if_neg (by have := h.1; omega), tB_yes h]; rfl
    · rw [tB_yes h]; rfl
  · refine .inr ⟨h, ?_, ?_⟩
    · by_cases h2 : 4096 < n
      · rw [if_pos h2]; exact .inr rfl
      · rw [if_neg h2, tB_no h]; exact .inl rfl
    · rw [tB_no h]; rfl
set_option maxRecDepth 100000 in
theorem implLeafRoot_any (a : Option Addr) (n c : Nat) (LF : Nat → Lf) (hn : n ≤ 1048576) (hc : n ≤ c) (hcm : c ≤ maxLen) (w : World) (h : Els w 2 a n (lfF LF)) (ht : Tabs w) :
    Calls Tryd.prog 7 #[.slice a n c] w fun e w' => e = .returned (.tuple #[.string (rootA n LF), .int .i64 (lsCode n LF)]) ∧ Below w.heap.size w w' := by
  have LT : Hid (Calls Tryd.prog 21 #[.slice a n c] w fun e w' => e = .returned (.int .i64 (lsCode n LF)) ∧ Below w.heap.size w w') := leavesFault_any a n c LF hn w h
  rcases lsCode_cases n LF with ⟨hok, e1, e2⟩ | ⟨hno, e1, e2⟩
  · rw [e1, e2]
    rw [e1] at LT
    have RO : Hid (∀ w : World, Els w 2 a n (lfF LF) → Tabs w → Calls Tryd.prog 22 #[.slice a n c] w fun e w' => e = .returned (.string (treeT LF 0 n)) ∧ Below w.heap.size w w') := fun w h ht => rootOver_any a n c LF hok.1 hc hcm hok.2 w h ht
    have HE : Hid (Els w 2 a n (lfF LF)) := h
    have HT : Hid (Tabs w) := ht
    generalize treeT LF 0 n = RT at *
    clear h ht e1 e2 hok
    go_enter Tryd.func7, Tryd.ntmps7
    go_wp2_with fail
    refine LT.out.mono ?_
    rintro e w1 ⟨rfl, hb⟩
    have B1 : Hid (Below w.heap.size w w1) := hb
    clear hb LT
    go_wp2_with fail
    refine (RO.out _ (HE.out.below B1.out) (HT.out.below B1.out)).mono ?_
    rintro e w2 ⟨rfl, hb⟩
    have B2 : Hid (Below w.heap.size w w2) := B1.out.trans (hb.mono B1.out.size)
    clear hb RO B1 HE HT
    go_wp2
    go_ret2
    exact ⟨rfl, B2.out⟩
  · rw [e2]
    have ne : (lsCode n LF != 0) = true := by rcases e1 with q | q <;> rw [q] <;> rfl
    generalize lsCode n LF = cd at *
    clear h ht e1 e2 hno
    go_enter Tryd.func7, Tryd.ntmps7
    go_wp2_with fail
    refine LT.out.mono ?_
    rintro e w1 ⟨rfl, hb⟩
    have B1 : Hid (Below w.heap.size w w1) := hb
    clear hb LT
    go_wp2
    go_ret2
    exact ⟨rfl, B1.out⟩
end Go.Proofs.YtpljdlgjeeikkaaDoor
