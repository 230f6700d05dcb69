/-
  Texts of the proof, joined: InsE1.
-/
import Derived.Test.YtpngjkhncfbnpaaDoorV37
import Derived.Test.YtpngjkhncfbnpaaDoorV38
import Derived.Shelf.RegionOpenPlain
import Derived.Laws.Externs
namespace Go.Proofs.YtpngjkhncfbnpaaDoor
open Go.ChangeShapes Go.WideShapes Go.ChangeAt Go.RowKit
set_option linter.unusedVariables false
set_option maxRecDepth 100000 in
theorem oneRgF (R : Nat → Rg) (i j : Nat) : (rgF R i j).oneCell' = true := by
  unfold rgF rgV
  split <;> rfl
set_option maxRecDepth 100000 in
set_option maxHeartbeats 4000000 in
theorem insRg_mid (w : World) (B : Nat) (a : Option Addr) (n c q k : Nat) (R : Nat → Rg) (x : Rg) (hk : k < n) (hB : B ≤ w.heap.size) (hn : n ≤ 100000) (h : EO w B 54 3 (.slice a n c) n (rgF R)) (hx : Box3 w q 54 (.int .i64 x.v) (.int .i64 x.c) (.string x.r)) (hq : (Value.slice a n c).ownBlock ≠ some q) :
    Calls Tryd.prog 116 #[.slice a n c, .int .i64 k, .slice (some ⟨q, 0, none⟩) 1 1] w fun e w' => InsRg w B (.slice a n c) n (insE R k x) e w' := by
  obtain ⟨g, hcc, rfl⟩ : ∃ g, c ≤ maxLen ∧ a = some ⟨g, 0, none⟩ := by
    obtain ⟨hl, ⟨h1, h2⟩ | ⟨g, cap, cur, hv, hB, hh, hn, hm, _⟩⟩ := h
    · omega
    · cases hv; exact ⟨g, hm, rfl⟩
  have hnc : n ≤ c := by
    obtain ⟨hl, ⟨h1, h2⟩ | ⟨g, cap, cur, hv, hB, hh, hn, hm, _⟩⟩ := h
    · omega
    · cases hv; exact hn
  unfold maxLen at hcc
  have hqg : q ≠ g := fun e => hq (by rw [e]; rfl)
  have hXc : ∀ j u, ((List.range 3).map (rgV x))[j]? = some u → w.cell? ⟨q, j, none⟩ = some u := fun j u hj => by
    rw [List.getElem?_map, Option.map_eq_some_iff] at hj
    obtain ⟨b, hb, rfl⟩ := hj
    obtain ⟨hj', rfl⟩ := List.getElem?_eq_some_iff.1 hb
    rw [List.getElem_range]
    have hj2 : j < 3 := by simpa using hj'
    rcases (show j = 0 ∨ j = 1 ∨ j = 2 by omega) with rfl | rfl | rfl
    · exact hx.c0
    · exact hx.c1
    · exact hx.c2
  have h0 : ∀ i, i < k → rgF (insE R k x) i = rgF R i := fun i hi => by unfold rgF; rw [insE_lt _ _ hi]
  have hX : (List.range 3).map (rgF (insE R k x) k) = (List.range 3).map (rgV x) := by unfold rgF; rw [insE_eq]
  have h2 : ∀ i, k ≤ i → rgF (insE R k x) (i + 1) = rgF R i := fun i hi => by unfold rgF; rw [insE_gt _ _ (by omega), Nat.add_sub_cancel]
  have hX1 : ∀ u ∈ (List.range 3).map (rgV x), u.oneCell' = true := fun u hu => by
    obtain ⟨j, _, rfl⟩ := List.mem_map.1 hu
    exact oneRgF (fun _ => x) 0 j
  obtain ⟨i0, hi, hz, hsz, hby⟩ := info_parts Tryd.infoRg
  have hkz : ¬ ((k : Int) = (n : Int)) := by omega
  have hkz' : ((k : Int) == (n : Int)) = false := by simp; omega
  have hin : k ≤ n := by omega
  have hik : (k : Int) ≤ (n : Int) := by omega
  have hck : ¬ c - k = 0 := by omega
  by_cases hroom : n + 1 ≤ c
  · obtain ⟨W1, W2, hc1, hc2, ho, hg, hsw⟩ := ins_shift (P := Tryd.prog) w.drew B 43 54 3 n c k g (rgF R) (rgF (insE R k x)) _ q Tryd.underlying43 (by rw [hi]; simp [hsz]) (EO.below h ((Below.refl _ w).drew)) hk hroom h0 hX h2 hXc hqg hX1 (oneRgF R)
    have hov : ∀ lb cb, (callFunc 121 #[.slice (some ⟨q, 0, none⟩) 1 1, .slice (some ⟨g, (k + 1) * 3, none⟩) lb cb]).run Tryd.prog w = .ok (.value (.bool false)) w := fun lb cb => by
      obtain ⟨cs, hq1, hqs, _⟩ := hx
      obtain ⟨hl, ⟨h1, h2⟩ | ⟨g', cap, cur, hv, hB', hh, hn', hm, hs', _⟩⟩ := h
      · omega
      cases hv
      rw [run_callFunc_extern Tryd.func121 (by kernel_rfl) (by kernel_rfl) (by kernel_rfl) (e := Extern.SlicesOverlaps.overlaps #[43, 43] #[4]) (by kernel_rfl),
        Lib.run_overlaps_apart w 43 4 54 Tryd.underlying43 3 (fun w => by simp [sizeOf, typeInfo, hi, hsz]) ⟨q, 0, none⟩ ⟨g, (k + 1) * 3, none⟩ 1 1 lb cb hqg 54 54 cs.size cur.size (by simp [World.shape?, hq1]) (by simp [World.shape?, hh]) (by rw [hs']; omega) (by simp [World.frozen?, hq1]) (by simp [World.frozen?, hq1])]
      rfl
    rw [show n + 1 - (k + 1) = n - k by omega] at hc1
    have mixed : Tryd.prog.follows .mixedOrders = true := by kernel_rfl
    have hb5 : (0 : Int) ≤ (k : Int) + 1 := by omega
    have hb6 : ¬ c = k + 1 := by omega
    have hb7 : ¬ c = k := by omega
    have hb8 : k ≤ n + 1 := by omega
    have hb1 : ¬ (c : Int) < (n : Int) + 1 := by omega
    have hb2 : ¬ c - (k + 1) = 0 := by omega
    have hb3 : (k : Int) ≤ (n : Int) + 1 := by omega
    have htn : ((k : Int) + 1).toNat = k + 1 := by omega
    have htm : ((n : Int) + 1).toNat = n + 1 := by omega
    have hw1 : IntKind.i64.wrap ((k : Int) + 1) = (k : Int) + 1 := IntWalk.i64_in _ (by omega)
    have HP : Hid (InsRg w B (.slice (some ⟨g, 0, none⟩) n c) n (insE R k x) (.returned (.slice (some ⟨g, 0, none⟩) (n + 1) c)) W2) := ⟨⟨_, rfl, ho, .inl rfl⟩, ⟨hg.os, hg.tape, hg.output, hg.size, hg.block⟩⟩
    clear h hx hXc h0 hX h2 hX1 hi hz hsz hby ho hg hsw hq
    go_enter Tryd.func116, Tryd.ntmps116
    go_wp2_with (simp only [hov])
    go_region_law_o (refine step_copy_runI rfl _ _ 43 43 rfl _ _ (by simp [Act.eval, Act.put]) (by simp [Act.eval, Act.put]) (hc1 _ _ _) ?_)
    go_wp2_with (at_builtin; refine wpList_copy_runI _ rfl _ _ 43 43 rfl _ _ rfl rfl (hc2 _ _) ?_)
    go_ret
    exact HP.out
  · obtain ⟨cc, W1, W2, W3, hcc1, hcc2, hap, hc1, hc2, ho, hg⟩ := ins_grow (P := Tryd.prog) w B 43 3 54 i0 _ 3 32 n c k g (rgF R) (rgF (insE R k x)) _ q Tryd.underlying43 Tryd.underlying3 hi hz hsz hby rfl (by omega) (by omega) h hk hroom hn h0 hX h2 hB hXc (World.rowIs.lt hx) hX1 (oneRgF R)
    have HP : Hid (InsRg w B (.slice (some ⟨g, 0, none⟩) n c) n (insE R k x) (.returned (.slice (some ⟨w.heap.size, 0, none⟩) (n + 1) cc)) W3) := ⟨⟨_, rfl, ho, .inr rfl⟩, ⟨hg.os, hg.tape, hg.output, hg.size, fun b hb _ => hg.block b hb (by simp)⟩⟩
    rw [show n + 1 - (k + 1) = n - k by omega] at hc2
    have mixed : Tryd.prog.follows .mixedOrders = true := by kernel_rfl
    have hb5 : (0 : Int) ≤ (k : Int) + 1 := by omega
    have hb6 : ¬ cc = k + 1 := by omega
    have hb7 : ¬ c = k := by omega
    have hb9 : ¬ cc = k := by omega
    have hb8 : k ≤ n + 1 := by omega
    have hb1 : (c : Int) < (n : Int) + 1 := by omega
    have hb2 : ¬ cc - (k + 1) = 0 := by omega
    have hb2' : ¬ cc - k = 0 := by omega
    have hb3 : (k : Int) ≤ (n : Int) + 1 := by omega
    have htn : ((k : Int) + 1).toNat = k + 1 := by omega
    have hw1 : IntKind.i64.wrap ((k : Int) + 1) = (k : Int) + 1 := IntWalk.i64_in _ (by omega)
    clear h hx hXc h0 hX h2 hX1 hi hz hsz hby ho hg hq
    go_enter Tryd.func116, Tryd.ntmps116
    go_wp2_with (first
      | (at_builtin; refine Lib.wpList_append_run _ rfl (.tmp 34) (.tmp 39) 43 3 rfl _ _ rfl rfl _ _ (hap _) ?_)
      | (at_builtin; refine wpList_copy_runI _ rfl (.tmp 43) (.tmp 44) 43 43 rfl _ _ rfl rfl (hc1 _ _) ?_))
    go_region_law_o (refine step_copy_runI rfl _ _ 43 43 rfl _ _ (by simp [Act.eval, Act.put]) (by simp [Act.eval, Act.put]) (hc2 _ _ _) ?_)
    go_wp2
    go_ret
    exact HP.out
theorem insRg_any (w : World) (B : Nat) (a : Option Addr) (n c q k : Nat) (R : Nat → Rg) (x : Rg) (hk : k ≤ n) (hB : B ≤ w.heap.size) (hn : n ≤ 100000) (h : EO w B 54 3 (.slice a n c) n (rgF R)) (hx : Box3 w q 54 (.int .i64 x.v) (.int .i64 x.c) (.string x.r)) (hq : (Value.slice a n c).ownBlock ≠ some q) :
    Calls Tryd.prog 116 #[.slice a n c, .int .i64 k, .slice (some ⟨q, 0, none⟩) 1 1] w fun e w' => InsRg w B (.slice a n c) n (insE R k x) e w' := by
  rcases Nat.lt_or_ge k n with g | g
  · exact insRg_mid w B a n c q k R x g hB hn h hx hq
  · obtain rfl : k = n := by omega
    have hc : ∀ j, j < 3 → w.cell? ⟨q, 0 + j, none⟩ = some (rgV x j) := by
      intro j hj
      rw [Nat.zero_add]
      rcases (show j = 0 ∨ j = 1 ∨ j = 2 by omega) with rfl | rfl | rfl
      · exact hx.c0
      · exact hx.c1
      · exact hx.c2
    refine (insRg_end w B a k c q R x hB hn h hc).mono ?_
    rintro e w' ⟨⟨v', rfl, ho, hloc⟩, hg⟩
    exact ⟨⟨v', rfl, EO.congr ho (fun i hi j _ => by unfold rgF; rw [ins_end _ _ _ hi]), hloc⟩, hg⟩
set_option maxRecDepth 100000 in
theorem oneSeF (R : Nat → Se) (i j : Nat) : (seF R i j).oneCell' = true := by
  unfold seF seV
  split <;> rfl
set_option maxRecDepth 100000 in
set_option maxHeartbeats 4000000 in
theorem insSe_mid (w : World) (B : Nat) (a : Option Addr) (n c q k : Nat) (R : Nat → Se) (x : Se) (hk : k < n) (hB : B ≤ w.heap.size) (hn : n ≤ 100000) (h : EO w B 100 4 (.slice a n c) n (seF R)) (hx : Box4 w q 100 (.int .i64 x.id) (.int .i64 x.sq) (.int .i64 x.cd) (.int .i64 x.ma)) (hq : (Value.slice a n c).ownBlock ≠ some q) :
    Calls Tryd.prog 112 #[.slice a n c, .int .i64 k, .slice (some ⟨q, 0, none⟩) 1 1] w fun e w' => InsSe w B (.slice a n c) n (insE R k x) e w' := by
  obtain ⟨g, hcc, rfl⟩ : ∃ g, c ≤ maxLen ∧ a = some ⟨g, 0, none⟩ := by
    obtain ⟨hl, ⟨h1, h2⟩ | ⟨g, cap, cur, hv, hB, hh, hn, hm, _⟩⟩ := h
    · omega
    · cases hv; exact ⟨g, hm, rfl⟩
  have hnc : n ≤ c := by
    obtain ⟨hl, ⟨h1, h2⟩ | ⟨g, cap, cur, hv, hB, hh, hn, hm, _⟩⟩ := h
    · omega
    · cases hv; exact hn
  unfold maxLen at hcc
  have hqg : q ≠ g := fun e => hq (by rw [e]; rfl)
  have hXc : ∀ j u, ((List.range 4).map (seV x))[j]? = some u → w.cell? ⟨q, j, none⟩ = some u := fun j u hj => by
    rw [List.getElem?_map, Option.map_eq_some_iff] at hj
    obtain ⟨b, hb, rfl⟩ := hj
    obtain ⟨hj', rfl⟩ := List.getElem?_eq_some_iff.1 hb
    rw [List.getElem_range]
    have hj2 : j < 4 := by simpa using hj'
    rcases (show j = 0 ∨ j = 1 ∨ j = 2 ∨ j = 3 by omega) with rfl | rfl | rfl | rfl
    · exact hx.c0
    · exact hx.c1
    · exact hx.c2
    · exact hx.c3
  have h0 : ∀ i, i < k → seF (insE R k x) i = seF R i := fun i hi => by unfold seF; rw [insE_lt _ _ hi]
  have hX : (List.range 4).map (seF (insE R k x) k) = (List.range 4).map (seV x) := by unfold seF; rw [insE_eq]
  have h2 : ∀ i, k ≤ i → seF (insE R k x) (i + 1) = seF R i := fun i hi => by unfold seF; rw [insE_gt _ _ (by omega), Nat.add_sub_cancel]
  have hX1 : ∀ u ∈ (List.range 4).map (seV x), u.oneCell' = true := fun u hu => by
    obtain ⟨j, _, rfl⟩ := List.mem_map.1 hu
    exact oneSeF (fun _ => x) 0 j
  obtain ⟨i0, hi, hz, hsz, hby⟩ := info_parts Tryd.infoSe
  have hkz : ¬ ((k : Int) = (n : Int)) := by omega
  have hkz' : ((k : Int) == (n : Int)) = false := by simp; omega
  have hin : k ≤ n := by omega
  have hik : (k : Int) ≤ (n : Int) := by omega
  have hck : ¬ c - k = 0 := by omega
  by_cases hroom : n + 1 ≤ c
  · obtain ⟨W1, W2, hc1, hc2, ho, hg, hsw⟩ := ins_shift (P := Tryd.prog) w.drew B 44 100 4 n c k g (seF R) (seF (insE R k x)) _ q Tryd.underlying44 (by rw [hi]; simp [hsz]) (EO.below h ((Below.refl _ w).drew)) hk hroom h0 hX h2 hXc hqg hX1 (oneSeF R)
    have hov : ∀ lb cb, (callFunc 117 #[.slice (some ⟨q, 0, none⟩) 1 1, .slice (some ⟨g, (k + 1) * 4, none⟩) lb cb]).run Tryd.prog w = .ok (.value (.bool false)) w := fun lb cb => by
      obtain ⟨cs, hq1, hqs, _⟩ := hx
      obtain ⟨hl, ⟨h1, h2⟩ | ⟨g', cap, cur, hv, hB', hh, hn', hm, hs', _⟩⟩ := h
      · omega
      cases hv
      rw [run_callFunc_extern Tryd.func117 (by kernel_rfl) (by kernel_rfl) (by kernel_rfl) (e := Extern.SlicesOverlaps.overlaps #[44, 44] #[4]) (by kernel_rfl),
        Lib.run_overlaps_apart w 44 4 100 Tryd.underlying44 4 (fun w => by simp [sizeOf, typeInfo, hi, hsz]) ⟨q, 0, none⟩ ⟨g, (k + 1) * 4, none⟩ 1 1 lb cb hqg 100 100 cs.size cur.size (by simp [World.shape?, hq1]) (by simp [World.shape?, hh]) (by rw [hs']; omega) (by simp [World.frozen?, hq1]) (by simp [World.frozen?, hq1])]
      rfl
    rw [show n + 1 - (k + 1) = n - k by omega] at hc1
    have mixed : Tryd.prog.follows .mixedOrders = true := by kernel_rfl
    have hb5 : (0 : Int) ≤ (k : Int) + 1 := by omega
    have hb6 : ¬ c = k + 1 := by omega
    have hb7 : ¬ c = k := by omega
    have hb8 : k ≤ n + 1 := by omega
    have hb1 : ¬ (c : Int) < (n : Int) + 1 := by omega
    have hb2 : ¬ c - (k + 1) = 0 := by omega
    have hb3 : (k : Int) ≤ (n : Int) + 1 := by omega
    have htn : ((k : Int) + 1).toNat = k + 1 := by omega
    have htm : ((n : Int) + 1).toNat = n + 1 := by omega
    have hw1 : IntKind.i64.wrap ((k : Int) + 1) = (k : Int) + 1 := IntWalk.i64_in _ (by omega)
    have HP : Hid (InsSe w B (.slice (some ⟨g, 0, none⟩) n c) n (insE R k x) (.returned (.slice (some ⟨g, 0, none⟩) (n + 1) c)) W2) := ⟨⟨_, rfl, ho, .inl rfl⟩, ⟨hg.os, hg.tape, hg.output, hg.size, hg.block⟩⟩
    clear h hx hXc h0 hX h2 hX1 hi hz hsz hby ho hg hsw hq
    go_enter Tryd.func112, Tryd.ntmps112
    go_wp2_with (simp only [hov])
    go_region_law_o (refine step_copy_runI rfl _ _ 44 44 rfl _ _ (by simp [Act.eval, Act.put]) (by simp [Act.eval, Act.put]) (hc1 _ _ _) ?_)
    go_wp2_with (at_builtin; refine wpList_copy_runI _ rfl _ _ 44 44 rfl _ _ rfl rfl (hc2 _ _) ?_)
    go_ret
    exact HP.out
  · obtain ⟨cc, W1, W2, W3, hcc1, hcc2, hap, hc1, hc2, ho, hg⟩ := ins_grow (P := Tryd.prog) w B 44 3 100 i0 _ 4 32 n c k g (seF R) (seF (insE R k x)) _ q Tryd.underlying44 Tryd.underlying3 hi hz hsz hby rfl (by omega) (by omega) h hk hroom hn h0 hX h2 hB hXc (World.rowIs.lt hx) hX1 (oneSeF R)
    have HP : Hid (InsSe w B (.slice (some ⟨g, 0, none⟩) n c) n (insE R k x) (.returned (.slice (some ⟨w.heap.size, 0, none⟩) (n + 1) cc)) W3) := ⟨⟨_, rfl, ho, .inr rfl⟩, ⟨hg.os, hg.tape, hg.output, hg.size, fun b hb _ => hg.block b hb (by simp)⟩⟩
    rw [show n + 1 - (k + 1) = n - k by omega] at hc2
    have mixed : Tryd.prog.follows .mixedOrders = true := by kernel_rfl
    have hb5 : (0 : Int) ≤ (k : Int) + 1 := by omega
    have hb6 : ¬ cc = k + 1 := by omega
    have hb7 : ¬ c = k := by omega
    have hb9 : ¬ cc = k := by omega
    have hb8 : k ≤ n + 1 := by omega
    have hb1 : (c : Int) < (n : Int) + 1 := by omega
    have hb2 : ¬ cc - (k + 1) = 0 := by omega
    have hb2' : ¬ cc - k = 0 := by omega
    have hb3 : (k : Int) ≤ (n : Int) + 1 := by omega
    have htn : ((k : Int) + 1).toNat = k + 1 := by omega
    have hw1 : IntKind.i64.wrap ((k : Int) + 1) = (k : Int) + 1 := IntWalk.i64_in _ (by omega)
    clear h hx hXc h0 hX h2 hX1 hi hz hsz hby ho hg hq
    go_enter Tryd.func112, Tryd.ntmps112
    go_wp2_with (first
      | (at_builtin; refine Lib.wpList_append_run _ rfl (.tmp 34) (.tmp 39) 44 3 rfl _ _ rfl rfl _ _ (hap _) ?_)
      | (at_builtin; refine wpList_copy_runI _ rfl (.tmp 43) (.tmp 44) 44 44 rfl _ _ rfl rfl (hc1 _ _) ?_))
    go_region_law_o (refine step_copy_runI rfl _ _ 44 44 rfl _ _ (by simp [Act.eval, Act.put]) (by simp [Act.eval, Act.put]) (hc2 _ _ _) ?_)
    go_wp2
    go_ret
    exact HP.out
theorem insSe_any (w : World) (B : Nat) (a : Option Addr) (n c q k : Nat) (R : Nat → Se) (x : Se) (hk : k ≤ n) (hB : B ≤ w.heap.size) (hn : n ≤ 100000) (h : EO w B 100 4 (.slice a n c) n (seF R)) (hx : Box4 w q 100 (.int .i64 x.id) (.int .i64 x.sq) (.int .i64 x.cd) (.int .i64 x.ma)) (hq : (Value.slice a n c).ownBlock ≠ some q) :
    Calls Tryd.prog 112 #[.slice a n c, .int .i64 k, .slice (some ⟨q, 0, none⟩) 1 1] w fun e w' => InsSe w B (.slice a n c) n (insE R k x) e w' := by
  rcases Nat.lt_or_ge k n with g | g
  · exact insSe_mid w B a n c q k R x g hB hn h hx hq
  · obtain rfl : k = n := by omega
    have hc : ∀ j, j < 4 → w.cell? ⟨q, 0 + j, none⟩ = some (seV x j) := by
      intro j hj
      rw [Nat.zero_add]
      rcases (show j = 0 ∨ j = 1 ∨ j = 2 ∨ j = 3 by omega) with rfl | rfl | rfl | rfl
      · exact hx.c0
      · exact hx.c1
      · exact hx.c2
      · exact hx.c3
    refine (insSe_end w B a k c q R x hB hn h hc).mono ?_
    rintro e w' ⟨⟨v', rfl, ho, hloc⟩, hg⟩
    exact ⟨⟨v', rfl, EO.congr ho (fun i hi j _ => by unfold seF; rw [ins_end _ _ _ hi]), hloc⟩, hg⟩
end Go.Proofs.YtpngjkhncfbnpaaDoor
