/-
  Roots of the model: l10Hash, l10Node, l10Tree, LeafRoot (written by tools/mktrees.py).
-/
import Derived.Test.YtpljdlgjeeikkaaDoorTreeI
import Derived.Test.YtpljdlgjeeikkaaDoorHashS
import Derived.Test.YtpljdlgjeeikkaaDoorAnyH
namespace Go.Proofs.YtpljdlgjeeikkaaDoor
open Go.ChangeShapes Go.WideShapes Go.ChangeAt Go.RowKit
set_option linter.unusedVariables false
theorem hashS_text (T : ByteArray) (n : Nat) (hn : T.size = n) : hashS n (strB T) = hashT T := by rw [← hn]; rfl
theorem conv_rowT (w : World) (C : Array Value) (n c : Nat) : (convert 22 22 (.slice (some ⟨w.heap.size, 0, none⟩) n c)).run Tryd.prog (w.alloc (.cells C 5)) = .ok (.slice (some ⟨w.heap.size, 0, none⟩) n c) (w.alloc (.cells C 5 (C.size, C.size + 1))) := by
  have hsh : (w.alloc (.cells C 5)).shape? w.heap.size = some (5, C.size) := by
    have : (w.alloc (.cells C 5)).heap[w.heap.size]? = some (.cells C 5) := by
      show (w.heap.push (.cells C 5))[w.heap.size]? = _
      simp
    unfold World.shape?
    rw [this]
  have hfr : (w.alloc (.cells C 5)).freeze ⟨w.heap.size, C.size, none⟩ 1 = w.alloc (.cells C 5 (C.size, C.size + 1)) := by
    have hm : ∀ (a : Array Obj) (x : Obj) (f : Obj → Obj), (a.push x).modify a.size f = a.push (f x) := by
      intro a x f
      apply Array.ext
      · simp
      · intro i h1 h2
        simp only [Array.getElem_modify, Array.getElem_push]
        by_cases h : a.size = i
        · subst h
          simp
        · have hi : i < a.size := by simp at h1; omega
          simp [h, hi]
    unfold World.freeze
    rw [if_neg (by decide)]
    show ({ w.alloc (.cells C 5) with heap := (w.heap.push (.cells C 5)).modify w.heap.size _ } : World) = _
    rw [hm]
    rfl
  simp [convert, run_underlying Tryd.underlying22, run_underlying Tryd.underlying5, markStringish, hsh]
  exact hfr
set_option maxRecDepth 100000 in
set_option maxHeartbeats 2000000 in
theorem l10Node_any (a b : ByteArray) (ha : a.size ≤ 100) (hb : b.size ≤ 100) (w : World) :
    Calls Tryd.prog 46 #[.string a, .string b] w fun e w' => e = .returned (.string (nodeT a b)) ∧ Below w.heap.size w w' := by
  obtain ⟨w1, gc, cv, hr, hbw⟩ := bytesOfR (⟨#[1]⟩ ++ a ++ b) w
  have hs : (⟨#[1]⟩ ++ a ++ b : ByteArray).size = 1 + a.size + b.size := nodeX_size a b
  have HH : Hid (∀ (g c : Nat) (w : World), Code8 w (some ⟨g, 0, none⟩) (1 + a.size + b.size) (strB (nodeX a b)) → Calls Tryd.prog 35 #[.slice (some ⟨g, 0, none⟩) (1 + a.size + b.size) c] w fun e w' => e = .returned (.string (nodeT a b)) ∧ Below w.heap.size w w') := fun g c w h => by
    have := l03Hash_any g 0 (1 + a.size + b.size) c (strB (nodeX a b)) (strB_lt _) (by omega) w h
    rwa [hashS_text _ _ (nodeX_size a b)] at this
  rw [hs] at cv hr
  have K1 : Hid (Code8 w1 (some ⟨w.heap.size, 0, none⟩) (1 + a.size + b.size) (strB (nodeX a b))) := hr.code
  have B1 : Hid (Below w.heap.size w w1) := hbw
  generalize nodeT a b = RT at *
  generalize strB (nodeX a b) = NX at *
  obtain ⟨N, hN⟩ : ∃ N, N = 1 + a.size + b.size := ⟨_, rfl⟩
  rw [← hN] at cv hr K1 HH
  clear hN
  have s1 : (⟨#[1]⟩ ++ a : ByteArray).size ≤ 101 := by rw [ByteArray.size_append]; show 1 + _ ≤ _; omega
  obtain ⟨Z1, hZ1⟩ : ∃ Z : ByteArray, (⟨#[1]⟩ : ByteArray) = Z := ⟨_, rfl⟩
  rw [hZ1] at cv s1
  have z1 : Z1.size = 1 := by rw [← hZ1]; rfl
  have q1 : 1 + a.size ≤ 9223372036854775807 := by omega
  have q2 : 1 + a.size + b.size ≤ 9223372036854775807 := by omega
  clear hr hbw hs
  go_enter Tryd.func46, Tryd.ntmps46
  go_wp2_with fail
  clear cv
  refine (HH.out _ _ _ K1.out).mono ?_
  rintro e w2 ⟨rfl, hb2⟩
  have B2 : Hid (Below w.heap.size w w2) := B1.out.trans (hb2.mono B1.out.size)
  clear hb2 HH B1 K1
  go_wp2
  go_ret
  exact ⟨rfl, B2.out⟩
set_option maxRecDepth 100000 in
set_option maxHeartbeats 4000000 in
theorem l10Hash_any (x : Lf) (hx : x.Ok) (w : World) :
    Calls Tryd.prog 45 #[.agg #[.int .i64 x.v, .string x.h]] w fun e w' => e = .returned (.string (leafT x)) ∧ Below w.heap.size w w' := by
  obtain ⟨k, hk⟩ : ∃ k : Nat, x.v = (k : Int) := ⟨x.v.toNat, by have := hx.1.1; omega⟩
  have hk2 : k < 4294967296 := by have := hx.1.2; omega
  have hs : x.h.size ≤ 100 := by have := hx.2; omega
  have TX : Hid (⟨#[0]⟩ ++ kstr (fourF k) 0 4 ++ x.h = leafX x) := by show _ = leafX x; unfold leafX fourT; rw [show x.v.toNat = k from by omega]
  have TZ : Hid ((leafX x).size = 5 + x.h.size) := leafX_size x
  have HH : Hid (∀ (g c : Nat) (w : World), Code8 w (some ⟨g, 0, none⟩) (5 + x.h.size) (strB (leafX x)) → Calls Tryd.prog 35 #[.slice (some ⟨g, 0, none⟩) (5 + x.h.size) c] w fun e w' => e = .returned (.string (leafT x)) ∧ Below w.heap.size w w') := fun g c w h => by
    have := l03Hash_any g 0 (5 + x.h.size) c (strB (leafX x)) (strB_lt _) (by omega) w h
    rwa [hashS_text _ _ (leafX_size x)] at this
  have FO : Hid (∀ w : World, Calls Tryd.prog 55 #[.int .i64 (k : Int)] w fun e w' => (e = .returned (.slice (some ⟨w.heap.size, 0, none⟩) 4 4) ∧ Own8 w' w.heap.size 4 (fourF k)) ∧ Below w.heap.size w w') := fun w => (l02FourB_any k (by omega) w).mono fun e w' h => ⟨⟨h.1, h.2.1⟩, h.2.2⟩
  obtain ⟨v, s⟩ := x
  dsimp only at hk hs TX TZ HH ⊢
  subst hk
  generalize leafT ⟨(k : Int), s⟩ = RT at *
  generalize leafX ⟨(k : Int), s⟩ = TT at *
  obtain ⟨N, hN⟩ : ∃ N, N = 5 + s.size := ⟨_, rfl⟩
  rw [← hN] at TZ HH
  have z4 : (kstr (fourF k) 0 4).size = 4 := kstr_size _ _ _
  generalize hS4 : kstr (fourF k) 0 4 = S4 at *
  have H4 : Hid (kstr (fourF k) 0 4 = S4) := hS4
  obtain ⟨Z0, hZ0⟩ : ∃ Z : ByteArray, (⟨#[0]⟩ : ByteArray) = Z := ⟨_, rfl⟩
  rw [hZ0] at TX
  have z0 : Z0.size = 1 := by rw [← hZ0]; rfl
  clear hx hS4 hk2 hN
  have A0 : Hid (Below w.heap.size w (w.alloc (.cells #[.int .i64 (k : Int), .string s] 26))) := (Below.refl _ _).alloc (Nat.le_refl _) _
  have BX : Hid (Box2 (w.alloc (.cells #[.int .i64 (k : Int), .string s] 26)) w.heap.size 26 (.int .i64 (k : Int)) (.string s)) := Box2.made _ _ _ _
  go_enter Tryd.func45, Tryd.ntmps45
  go_upto_region 1 with fail
  generalize (w.alloc (.cells #[.int .i64 (k : Int), .string s] 26)) = v0 at *
  obtain ⟨pb, hpb⟩ : ∃ x, x = w.heap.size := ⟨_, rfl⟩
  rw [← hpb] at BX ⊢
  clear hpb
  have H : Below v0.heap.size v0 v0.drew := (Below.refl _ _).drew
  refine wp_region_noPanic ?_
  refine wp_region_held_drew (S := fun w' => (Below v0.heap.size v0 w')) (by kernel_rfl) H (fun _ => ?_)
  generalize v0.drew = y0 at *
  refine wpAnyH_take (i := 0) (v := .pointer (some ⟨pb, 0, none⟩)) rfl (by kernel_rfl) (by kernel_rfl) (by kernel_rfl) (fun _ _ _ h => h) (Or.inl ⟨by rfl, ?_⟩) H ?_
  · intro w' hSw; go_simp
  change wpAnyH _ _ _ _ _ _ _ { tmps := #[_, _, _, _, _, _, _, _, _, _, _, _, _], defers := _ } _
  refine wpAnyH_take (i := 1) (v := .int .i64 (k : Int)) rfl (by kernel_rfl) (by kernel_rfl) (by kernel_rfl) (fun _ _ _ h => h) (Or.inl ⟨by rfl, ?_⟩) H ?_
  · intro w' hSw; have t0 := (BX.out.below hSw).c0; have t1 := (BX.out.below hSw).c1; clear hSw; go_simp
  change wpAnyH _ _ _ _ _ _ _ { tmps := #[_, _, _, _, _, _, _, _, _, _, _, _, _], defers := _ } _
  refine wpAnyH_take (i := 5) (v := .pointer (some ⟨pb, 1, none⟩)) rfl (by kernel_rfl) (by kernel_rfl) (by kernel_rfl) (fun _ _ _ h => h) (Or.inl ⟨by rfl, ?_⟩) H ?_
  · intro w' hSw; go_simp
  change wpAnyH _ _ _ _ _ _ _ { tmps := #[_, _, _, _, _, _, _, _, _, _, _, _, _], defers := _ } _
  refine wpAnyH_take (i := 6) (v := .string s) rfl (by kernel_rfl) (by kernel_rfl) (by kernel_rfl) (fun _ _ _ h => h) (Or.inl ⟨by rfl, ?_⟩) H ?_
  · intro w' hSw; have t0 := (BX.out.below hSw).c0; have t1 := (BX.out.below hSw).c1; clear hSw; go_simp
  change wpAnyH _ _ _ _ _ _ _ { tmps := #[_, _, _, _, _, _, _, _, _, _, _, _, _], defers := _ } _
  refine wpAnyH_ready (rs := [2]) (by kernel_rfl) (by simp) ?_
  refine AllReadyH.cons rfl (fun KK hK => ?_) AllReadyH.nil
  go_simp
  refine (FO.out _).mono ?_
  rintro e y1 ⟨⟨rfl, ho⟩, hb⟩
  replace H : (Below v0.heap.size v0 y1) := (H).trans (hb.mono (H).size)
  have CF : Hid (Code8 y1 (some ⟨y0.heap.size, 0, none⟩) 4 (fourF k)) := ho.code
  obtain ⟨fb, hfb⟩ : ∃ x, x = y0.heap.size := ⟨_, rfl⟩
  rw [← hfb] at CF ⊢
  clear hb ho hfb
  refine hK.out _ _ H (fun _ => ?_)
  clear hK KK
  change wpAnyH _ _ _ _ _ _ _ { tmps := #[_, _, _, _, _, _, _, _, _, _, _, _, _], defers := _ } _
  refine wpAnyH_strong (S' := fun w' => (Code8 w' (some ⟨fb, 0, none⟩) 4 (fourF k)) ∧ (Below v0.heap.size v0 w')) (fun _ h => h.2) _ _ _ _ ?_
  replace H : (Code8 y1 (some ⟨fb, 0, none⟩) 4 (fourF k)) ∧ (Below v0.heap.size v0 y1) := ⟨CF.out, H⟩
  clear CF
  refine wpAnyH_take (i := 3) (v := .string S4) rfl (by kernel_rfl) (by kernel_rfl) (by kernel_rfl) (fun _ _ _ h => h) (Or.inl ⟨by rfl, ?_⟩) H ?_
  · intro w' hSw; have q0 := kstr_of_code (c := 4) hSw.1; rw [H4.out] at q0; clear hSw; go_simp
  change wpAnyH _ _ _ _ _ _ _ { tmps := #[_, _, _, _, _, _, _, _, _, _, _, _, _], defers := _ } _
  refine wpAnyH_take (i := 4) (v := .string (Z0 ++ S4)) rfl (by kernel_rfl) (by kernel_rfl) (by kernel_rfl) (fun _ _ _ h => h) (Or.inl ⟨by rfl, ?_⟩) H ?_
  · intro w' hSw; go_simp
  change wpAnyH _ _ _ _ _ _ _ { tmps := #[_, _, _, _, _, _, _, _, _, _, _, _, _], defers := _ } _
  refine wpAnyH_take (i := 7) (v := .string TT) rfl (by kernel_rfl) (by kernel_rfl) (by kernel_rfl) (fun _ _ _ h => h) (Or.inl ⟨by rfl, ?_⟩) H ?_
  · intro w' hSw; have q1 := TX.out; have q2 : 5 + s.size ≤ 9223372036854775807 := by omega
    clear hSw; go_simp
  change wpAnyH _ _ _ _ _ _ _ { tmps := #[_, _, _, _, _, _, _, _, _, _, _, _, _], defers := _ } _
  refine wpAnyH_ready (rs := [8]) (by kernel_rfl) (by simp) ?_
  refine AllReadyH.cons rfl (fun KK hK => ?_) AllReadyH.nil
  obtain ⟨y2, tc, hcv, hx, hb⟩ := bytesOfR TT y1
  rw [TZ.out] at hcv hx
  go_simp
  replace H : (Code8 y2 (some ⟨fb, 0, none⟩) 4 (fourF k)) ∧ (Below v0.heap.size v0 y2) := ⟨(H.1).below hb, (H.2).trans (hb.mono (H.2).size)⟩
  have CT : Hid (Code8 y2 (some ⟨y1.heap.size, 0, none⟩) N (strB TT)) := hx.code
  obtain ⟨tb, htb⟩ : ∃ x, x = y1.heap.size := ⟨_, rfl⟩
  rw [← htb] at CT ⊢
  clear hcv hx hb htb
  refine hK.out _ _ H (fun _ => ?_)
  clear hK KK
  change wpAnyH _ _ _ _ _ _ _ { tmps := #[_, _, _, _, _, _, _, _, _, _, _, _, _], defers := _ } _
  refine wpAnyH_ready (rs := [9]) (by kernel_rfl) (by simp) ?_
  refine AllReadyH.cons rfl (fun KK hK => ?_) AllReadyH.nil
  go_simp
  refine (HH.out tb _ _ CT.out).mono ?_
  rintro e y3 ⟨rfl, hb⟩
  replace H : (Code8 y3 (some ⟨fb, 0, none⟩) 4 (fourF k)) ∧ (Below v0.heap.size v0 y3) := ⟨(H.1).below hb, (H.2).trans (hb.mono (H.2).size)⟩
  clear hb 
  refine hK.out _ _ H (fun _ => ?_)
  clear hK KK
  change wpAnyH _ _ _ _ _ _ _ { tmps := #[_, _, _, _, _, _, _, _, _, _, _, _, _], defers := _ } _
  refine wpAnyH_take (i := 10) (v := .string RT) rfl (by kernel_rfl) (by kernel_rfl) (by kernel_rfl) (fun _ _ _ h => h) (Or.inl ⟨by rfl, ?_⟩) H ?_
  · intro w' hSw; go_simp
  change wpAnyH _ _ _ _ _ _ _ { tmps := #[_, _, _, _, _, _, _, _, _, _, _, _, _], defers := _ } _
  refine wpAnyH_done (by kernel_rfl) ?_ _
  refine NoPanic.normal ?_
  have B2 : Hid (Below w.heap.size w y3) := A0.out.trans ((H.2).mono A0.out.size)
  clear H CT HH FO TX TZ H4 hZ0 A0 BX
  go_wp2
  go_ret
  exact ⟨rfl, B2.out⟩
set_option maxRecDepth 100000 in
set_option maxHeartbeats 4000000 in
theorem l10Tree_any (n : Nat) : ∀ (a : Option Addr) (c : Nat) (LF : Nat → Lf), n ≤ 32 → n ≤ c → c ≤ maxLen → (∀ i, i < n → (LF i).Ok) → ∀ w : World, Els w 2 a n (lfF LF) →
    Calls Tryd.prog 24 #[.slice a n c] w fun e w' => e = .returned (.string (treeT LF 0 n)) ∧ Below w.heap.size w w' := by
  induction n using Nat.strongRecOn with
  | ind n ih =>
    intro a c LF h32 hc hcm hok w h
    rcases (show n = 0 ∨ n = 1 ∨ 2 ≤ n by omega) with rfl | rfl | h2
    · rw [treeT_none]
      have HH : Hid (∀ (b : Nat) (w : World), Code8 w (some ⟨b, 0, none⟩) 1 (fun _ => 2) → Calls Tryd.prog 35 #[.slice (some ⟨b, 0, none⟩) 1 1] w fun e w' => e = .returned (.string noneT) ∧ Below w.heap.size w w') := fun b w h => by
        have h' : Code8 w (some ⟨b, 0, none⟩) 1 (strB ⟨#[2]⟩) := fun i hi => by
          obtain rfl : i = 0 := by omega
          exact h 0 (by omega)
        exact l03Hash_any _ 0 1 1 (strB ⟨#[2]⟩) (strB_lt _) (by omega) w h'
      have cv := conv_rowT w #[.int .u8 2] 1 1
      have K : Hid (Code8 (w.alloc (.cells #[.int .u8 2] 5 (1, 2))) (some ⟨w.heap.size, 0, none⟩) 1 (fun _ => 2)) := code8_of (fun i hi => by
        obtain rfl : i = 0 := by omega
        rw [World.cell?_alloc_mark]
        rfl)
      have HB : Hid (Below w.heap.size w (w.alloc (.cells #[.int .u8 2] 5 (1, 2)))) := (Below.refl _ _).alloc (Nat.le_refl _) _
      have HC := HH.out _ _ K.out
      have HC' : Hid _ := HC
      have cv' : (convert 22 22 (.slice (some ⟨w.heap.size, 0, none⟩) 1 1)).run Tryd.prog (w.alloc (.cells #[.int .u8 2] 5)) = .ok (.slice (some ⟨w.heap.size, 0, none⟩) 1 1) (w.alloc (.cells #[.int .u8 2] 5 (1, 2))) := cv
      generalize noneT = RT at *
      clear HH h hok K HC cv ih
      go_enter Tryd.func24, Tryd.ntmps24
      go_wp2_with fail
      refine Calls.mono HC'.out ?_
      rintro e w1 ⟨rfl, hb⟩
      have B1 : Hid (Below w.heap.size w w1) := HB.out.trans (hb.mono HB.out.size)
      clear hb HC' HB cv'
      go_wp2
      go_ret
      exact ⟨rfl, B1.out⟩
    · rw [treeT_one]
      have LR : Hid (Calls Tryd.prog 45 #[.agg #[.int .i64 (LF 0).v, .string (LF 0).h]] w fun e w' => e = .returned (.string (leafT (LF 0))) ∧ Below w.heap.size w w') := l10Hash_any _ (hok 0 (by omega)) w
      obtain ⟨b', off', rfl, hcc⟩ := h 0 (by omega)
      have c0 := hcc 0 (by omega)
      have c1 := hcc 1 (by omega)
      simp only [lfF, lfV, Nat.zero_mul, Nat.add_zero] at c0 c1
      generalize leafT (LF 0) = RT at *
      clear h hok hcc ih
      go_enter Tryd.func24, Tryd.ntmps24
      go_wp2_with fail
      refine LR.out.mono ?_
      rintro e w1 ⟨rfl, hb⟩
      have B1 : Hid (Below w.heap.size w w1) := hb
      clear hb LR c0 c1
      go_wp2
      go_ret
      exact ⟨rfl, B1.out⟩
    · have g1 := gh_lt h2
      have g0 := gh_pos (n := n) (by omega)
      obtain ⟨b, off, rfl, _⟩ := h.opened (by omega)
      have SP : SlP (some ⟨b, off, none⟩) n c := ⟨(fun e => by cases e), .inr ⟨b, off, rfl⟩, hc, hcm⟩
      obtain ⟨k, hk⟩ : ∃ k, k = gh n := ⟨_, rfl⟩
      have CT := run_cut_to (P := Tryd.prog) 23 leaf_under 2 leaf_sizeOf SP k (by omega)
      have CF := run_cut_from (P := Tryd.prog) 23 leaf_under 2 leaf_sizeOf SP k (by omega)
      have hcut : cutA (some ⟨b, off, none⟩) c k 2 = some ⟨b, off + k * 2, none⟩ := by
        unfold cutA
        rw [if_neg (by omega)]
        exact congrArg some (Go.WideShapes.add_plain ..)
      rw [hcut] at CF
      have F1 : Hid (∀ w : World, Els w 2 (some ⟨b, off, none⟩) n (lfF LF) → Calls Tryd.prog 24 #[.slice (some ⟨b, off, none⟩) k c] w fun e w' => e = .returned (.string (treeT LF 0 k)) ∧ Below w.heap.size w w') := fun w h => ih k (by omega) (some ⟨b, off, none⟩) c LF (by omega) (by omega) hcm (fun i hi => hok i (by omega)) w (h.less (by omega))
      have F2 : Hid (∀ w : World, Els w 2 (some ⟨b, off, none⟩) n (lfF LF) → Calls Tryd.prog 24 #[.slice (some ⟨b, off + k * 2, none⟩) (n - k) (c - k)] w fun e w' => e = .returned (.string (treeT LF k (n - k))) ∧ Below w.heap.size w w') := fun w h => by
        have := ih (n - k) (by omega) (some ⟨b, off + k * 2, none⟩) (c - k) (fun i => LF (k + i)) (by omega) (by omega) (by omega) (fun i hi => hok _ (by omega)) w (h.behind k (by omega))
        rwa [treeT_congr (F := fun i => LF (k + i)) (G := LF) (o := 0) (p := k) (fun i hi => by rw [Nat.zero_add])] at this
      have NR : Hid (∀ w : World, Calls Tryd.prog 46 #[.string (treeT LF 0 k), .string (treeT LF k (n - k))] w fun e w' => e = .returned (.string (treeT LF 0 n)) ∧ Below w.heap.size w w') := fun w => by
        have := l10Node_any (treeT LF 0 k) (treeT LF k (n - k)) (by rw [treeT_size]; omega) (by rw [treeT_size]; omega) w
        rw [hk] at this ⊢
        rw [treeT_two _ _ _ h2, Nat.zero_add]
        exact this
      generalize treeT LF 0 n = RT at *
      generalize treeT LF 0 k = R1 at *
      generalize treeT LF k (n - k) = R2 at *
      have HE : Hid (Els w 2 (some ⟨b, off, none⟩) n (lfF LF)) := h
      have n0 : ((n : Int) == 0) = false := by simp; omega
      have n1 : ((n : Int) == 1) = false := by simp; omega
      have ek : ((n : Int) + 1) / 2 = (k : Int) := by rw [hk]; unfold gh; omega
      have CT' : Hid _ := CT
      have CF' : Hid _ := CF
      clear h hok ih hcut SP hk g1 g0 CT CF
      go_enter Tryd.func24, Tryd.ntmps24
      go_upto_region 7 with fail
      have H : Below w.heap.size w w.drew := (Below.refl _ _).drew
      refine wp_region_noPanic ?_
      refine wp_region_held_drew (S := fun w' => (Below w.heap.size w w')) (by kernel_rfl) H (fun _ => ?_)
      generalize w.drew = y0 at *
      refine wpAnyH_take (i := 0) (v := .slice (some ⟨b, off, none⟩) n c) rfl (by kernel_rfl) (by kernel_rfl) (by kernel_rfl) (fun _ _ _ h => h) (Or.inl ⟨by rfl, ?_⟩) H ?_
      · intro w' hSw; go_simp
      change wpAnyH _ _ _ _ _ _ _ { tmps := #[_, _, _, _, _, _, _, _, _, _, _, _, _, _, _, _, _, _, _, _, _, _, _, _, _, _, _, _, _, _], defers := _ } _
      refine wpAnyH_take (i := 1) (v := .int .i64 (k : Int)) rfl (by kernel_rfl) (by kernel_rfl) (by kernel_rfl) (fun _ _ _ h => h) (Or.inl ⟨by rfl, ?_⟩) H ?_
      · intro w' hSw; go_simp
      change wpAnyH _ _ _ _ _ _ _ { tmps := #[_, _, _, _, _, _, _, _, _, _, _, _, _, _, _, _, _, _, _, _, _, _, _, _, _, _, _, _, _, _], defers := _ } _
      refine wpAnyH_take (i := 2) (v := .slice (some ⟨b, off, none⟩) k c) rfl (by kernel_rfl) (by kernel_rfl) (by kernel_rfl) (fun _ _ _ h => h) (Or.inl ⟨by rfl, ?_⟩) H ?_
      · intro w' hSw; have CC := CT'.out; go_simp
      change wpAnyH _ _ _ _ _ _ _ { tmps := #[_, _, _, _, _, _, _, _, _, _, _, _, _, _, _, _, _, _, _, _, _, _, _, _, _, _, _, _, _, _], defers := _ } _
      refine wpAnyH_take (i := 4) (v := .slice (some ⟨b, off, none⟩) n c) rfl (by kernel_rfl) (by kernel_rfl) (by kernel_rfl) (fun _ _ _ h => h) (Or.inl ⟨by rfl, ?_⟩) H ?_
      · intro w' hSw; go_simp
      change wpAnyH _ _ _ _ _ _ _ { tmps := #[_, _, _, _, _, _, _, _, _, _, _, _, _, _, _, _, _, _, _, _, _, _, _, _, _, _, _, _, _, _], defers := _ } _
      refine wpAnyH_take (i := 5) (v := .int .i64 (k : Int)) rfl (by kernel_rfl) (by kernel_rfl) (by kernel_rfl) (fun _ _ _ h => h) (Or.inl ⟨by rfl, ?_⟩) H ?_
      · intro w' hSw; go_simp
      change wpAnyH _ _ _ _ _ _ _ { tmps := #[_, _, _, _, _, _, _, _, _, _, _, _, _, _, _, _, _, _, _, _, _, _, _, _, _, _, _, _, _, _], defers := _ } _
      refine wpAnyH_take (i := 6) (v := .slice (some ⟨b, off + k * 2, none⟩) (n - k) (c - k)) rfl (by kernel_rfl) (by kernel_rfl) (by kernel_rfl) (fun _ _ _ h => h) (Or.inl ⟨by rfl, ?_⟩) H ?_
      · intro w' hSw; have CC := CF'.out; go_simp
      change wpAnyH _ _ _ _ _ _ _ { tmps := #[_, _, _, _, _, _, _, _, _, _, _, _, _, _, _, _, _, _, _, _, _, _, _, _, _, _, _, _, _, _], defers := _ } _
      refine wpAnyH_ready (rs := [3]) (by kernel_rfl) (by simp) ?_
      refine AllReadyH.cons rfl (fun KK hK => ?_) AllReadyH.nil
      go_simp
      refine (F1.out _ (HE.out.below H)).mono ?_
      rintro e y1 ⟨rfl, hb⟩
      replace H : (Below w.heap.size w y1) := (H).trans (hb.mono (H).size)
      clear hb 
      refine hK.out _ _ H (fun _ => ?_)
      clear hK KK
      change wpAnyH _ _ _ _ _ _ _ { tmps := #[_, _, _, _, _, _, _, _, _, _, _, _, _, _, _, _, _, _, _, _, _, _, _, _, _, _, _, _, _, _], defers := _ } _
      refine wpAnyH_ready (rs := [7]) (by kernel_rfl) (by simp) ?_
      refine AllReadyH.cons rfl (fun KK hK => ?_) AllReadyH.nil
      go_simp
      refine (F2.out _ (HE.out.below H)).mono ?_
      rintro e y2 ⟨rfl, hb⟩
      replace H : (Below w.heap.size w y2) := (H).trans (hb.mono (H).size)
      clear hb 
      refine hK.out _ _ H (fun _ => ?_)
      clear hK KK
      change wpAnyH _ _ _ _ _ _ _ { tmps := #[_, _, _, _, _, _, _, _, _, _, _, _, _, _, _, _, _, _, _, _, _, _, _, _, _, _, _, _, _, _], defers := _ } _
      refine wpAnyH_ready (rs := [8]) (by kernel_rfl) (by simp) ?_
      refine AllReadyH.cons rfl (fun KK hK => ?_) AllReadyH.nil
      go_simp
      refine (NR.out _).mono ?_
      rintro e y3 ⟨rfl, hb⟩
      replace H : (Below w.heap.size w y3) := (H).trans (hb.mono (H).size)
      clear hb 
      refine hK.out _ _ H (fun _ => ?_)
      clear hK KK
      change wpAnyH _ _ _ _ _ _ _ { tmps := #[_, _, _, _, _, _, _, _, _, _, _, _, _, _, _, _, _, _, _, _, _, _, _, _, _, _, _, _, _, _], defers := _ } _
      refine wpAnyH_take (i := 9) (v := .string RT) rfl (by kernel_rfl) (by kernel_rfl) (by kernel_rfl) (fun _ _ _ h => h) (Or.inl ⟨by rfl, ?_⟩) H ?_
      · intro w' hSw; go_simp
      change wpAnyH _ _ _ _ _ _ _ { tmps := #[_, _, _, _, _, _, _, _, _, _, _, _, _, _, _, _, _, _, _, _, _, _, _, _, _, _, _, _, _, _], defers := _ } _
      refine wpAnyH_done (by kernel_rfl) ?_ _
      refine NoPanic.normal ?_
      have B1 : Hid (Below w.heap.size w y3) := H
      clear H HE F1 F2 NR CT' CF' n0 n1 ek
      go_wp2
      go_ret
      exact ⟨rfl, B1.out⟩
set_option maxRecDepth 100000 in
theorem specLeafRoot_any (a : Option Addr) (n c : Nat) (LF : Nat → Lf) (hn : n ≤ 1048576) (hc : n ≤ c) (hcm : c ≤ maxLen) (w : World) (h : Els w 2 a n (lfF LF)) :
    Calls Tryd.prog 8 #[.slice a n c] w fun e w' => e = .returned (.tuple #[.string (rootA n LF), .int .i64 (lsCode n LF)]) ∧ Below w.heap.size w w' := by
  by_cases h0 : 4096 < n
  · have e1 : lsCode n LF = 2 := by unfold lsCode; rw [if_pos h0]
    have e2 : rootA n LF = ⟨#[]⟩ := by unfold rootA; rw [tB_no (fun q => by have := q.1; omega)]; rfl
    rw [e1, e2]
    have e3 : (4096 : Int) < (n : Int) := by omega
    clear e1 e2 h
    go_enter Tryd.func8, Tryd.ntmps8
    go_wp2
    go_ret2
    exact ⟨rfl, Below.refl _ _⟩
  have e3 : ¬ (4096 : Int) < (n : Int) := by omega
  have LK : Hid (Calls Tryd.prog 23 #[.slice a n c] w fun e w' => e = .returned (.bool (tB (LsOk n LF))) ∧ Below w.heap.size w w') := specLeavesOK_any a n c LF hn w h _ rfl
  rcases lsCode_cases n LF with ⟨hok, e1, e2⟩ | ⟨hno, e1, e2⟩
  · rw [e1, e2]
    rw [tB_yes hok] at LK
    have RO : Hid (∀ w : World, Els w 2 a n (lfF LF) → Calls Tryd.prog 24 #[.slice a n c] w fun e w' => e = .returned (.string (treeT LF 0 n)) ∧ Below w.heap.size w w') := fun w h => l10Tree_any n a c LF hok.1 hc hcm hok.2 w h
    have HE : Hid (Els w 2 a n (lfF LF)) := h
    generalize treeT LF 0 n = RT at *
    clear h e1 e2 hok
    go_enter Tryd.func8, Tryd.ntmps8
    go_wp2_with fail
    refine LK.out.mono ?_
    rintro e w1 ⟨rfl, hb⟩
    have B1 : Hid (Below w.heap.size w w1) := hb
    clear hb LK
    go_wp2_with fail
    refine (RO.out _ (HE.out.below B1.out)).mono ?_
    rintro e w2 ⟨rfl, hb⟩
    have B2 : Hid (Below w.heap.size w w2) := B1.out.trans (hb.mono B1.out.size)
    clear hb RO B1 HE
    go_wp2
    go_ret2
    exact ⟨rfl, B2.out⟩
  · have e4 : lsCode n LF = 1 := by unfold lsCode; rw [if_neg h0, tB_no hno]; rfl
    rw [e2, e4]
    rw [tB_no hno] at LK
    clear h e1 e2 e4 hno
    go_enter Tryd.func8, Tryd.ntmps8
    go_wp2_with fail
    refine LK.out.mono ?_
    rintro e w1 ⟨rfl, hb⟩
    have B1 : Hid (Below w.heap.size w w1) := hb
    clear hb LK
    go_wp2
    go_ret2
    exact ⟨rfl, B1.out⟩
end Go.Proofs.YtpljdlgjeeikkaaDoor
