/-
  slices.Insert of one number (written by tools/mkinsi.py).
-/
import Derived.Test.YtdoacpnjggdojaaInsG
import Derived.Test.YtdoacpnjggdojaaIntE
import Derived.Lib.SliceRun
import Derived.Lib.AppendZeros
import Derived.Shelf.RegionOpenPlain
import Derived.Laws.Externs
namespace Go.Proofs.Ytdoacpnjggdojaa
open Go.ChangeShapes Go.WideShapes Go.ChangeAt Go.RowKit
set_option linter.unusedVariables false
def inVI (x : Int) (j : Nat) : Value := .int .i64 x
/-- Block q holds one number. -/
def BoxN (w : World) (q : Nat) (x : Int) : Prop := w.rowIs q 3 1 (fun _ => .int .i64 x)
theorem BoxN.c0 {w : World} {q : Nat} {x : Int} (h : BoxN w q x) : w.cell? ⟨q, 0, none⟩ = some (.int .i64 x) := World.rowIs.cell h (i := 0) (by omega)
theorem BoxN.made (w : World) (x : Int) : BoxN (w.alloc (.cells #[.int .i64 x] 3)) w.heap.size x := World.rowIs_alloc w #[.int .i64 x] 3 _ (fun i hi => by
  obtain rfl : i = 0 := by simpa using hi
  rfl)
set_option maxRecDepth 100000 in
theorem appInI (w : World) (B : Nat) (v : Value) (n q : Nat) (R : Nat → Int) (x : Int) (hB : B ≤ w.heap.size) (hn : n ≤ 100000) (h : EO w B 3 1 v n (inF R)) (hx : ∀ j, j < 1 → w.cell? ⟨q, 0 + j, none⟩ = some (inVI x j)) :
    ∃ v' w', (∀ ty, (Builtin.append_ #[31, 31] ty #[v, .slice (some ⟨q, 0, none⟩) 1 1]).run Try.prog w = .ok v' w') ∧ EO w' B 3 1 v' (n + 1) (inF (updE R n x)) ∧ w.grownBy w' v.ownBlock ∧ (v'.ownBlock = v.ownBlock ∨ v'.ownBlock = some w.heap.size) := by
  obtain ⟨i, hi, hz, hsz, hby⟩ := info_parts Try.infoInE
  obtain ⟨v', w', hr, ho, hg, _, hloc⟩ := run_append_own_at (P := Try.prog) w B 31 31 3 i _ 1 8 Try.underlying31 hi hz hsz hby rfl (by decide) v n _ h ⟨q, 0, none⟩ 1 1 ((List.range 1).map (inVI x)) (by simp) (fun j u hj => by
    rw [Go.WideShapes.add_plain]
    rw [List.getElem?_map, Option.map_eq_some_iff] at hj
    obtain ⟨b, hb, rfl⟩ := hj
    obtain ⟨hj', rfl⟩ := List.getElem?_eq_some_iff.1 hb
    rw [List.getElem_range]
    exact hx j (by simpa using hj')) (fun u hu => by
      obtain ⟨j, hj, rfl⟩ := List.mem_map.1 hu
      rfl) (by unfold maxLen; omega) (by omega) hB
  refine ⟨v', w', fun ty => hr, ?_, hg, hloc⟩
  unfold EO
  rw [elv_snoc, elv_congr (G := inF R) (fun i hi j hj => by unfold inF updE; rw [if_neg (by omega)])]
  have e : (List.range 1).map (inF (updE R n x) n) = (List.range 1).map (inVI x) := by unfold inF updE inVI; simp
  rw [e]
  exact ho
/-- A row that has grown by x is handed back. -/
def InsIn (w : World) (B : Nat) (v : Value) (n : Nat) (R : Nat → Int) (e : Ending) (w' : World) : Prop := (∃ v', e = .returned v' ∧ EO w' B 3 1 v' (n + 1) (inF R) ∧ (v'.ownBlock = v.ownBlock ∨ v'.ownBlock = some w.heap.size)) ∧ w.grownBy w' v.ownBlock
set_option maxRecDepth 100000 in
set_option maxHeartbeats 1000000 in
theorem insIn_end (w : World) (B : Nat) (a : Option Addr) (n c q : Nat) (R : Nat → Int) (x : Int) (hB : B ≤ w.heap.size) (hn : n ≤ 100000) (h : EO w B 3 1 (.slice a n c) n (inF R)) (hx : ∀ j, j < 1 → w.cell? ⟨q, 0 + j, none⟩ = some (inVI x j)) :
    Calls Try.prog 122 #[.slice a n c, .int .i64 n, .slice (some ⟨q, 0, none⟩) 1 1] w fun e w' => InsIn w B (.slice a n c) n (updE R n x) e w' := by
  obtain ⟨v', w', hr, ho, hg, hloc⟩ := appInI w B _ n q R x hB hn h hx
  have hnc : n ≤ c := by
    obtain ⟨hl, ⟨h1, h2⟩ | ⟨g, cap, cur, hv, hB, hh, hn, _⟩⟩ := h
    · omega
    · cases hv; exact hn
  have HP : Hid (InsIn w B (.slice a n c) n (updE R n x) (.returned v') w') := ⟨⟨v', rfl, ho, hloc⟩, hg⟩
  clear h hx ho hg hloc
  by_cases hcn : c = n
  · subst hcn
    go_enter Try.func122, Try.ntmps122
    go_wp2_with (at_builtin; refine Lib.wpList_append_run _ rfl (.tmp 23) (.tmp 24) 31 31 rfl (.slice a c c) (.slice (some ⟨q, 0, none⟩) 1 1) rfl rfl _ _ (hr _) ?_)
    go_ret
    exact HP.out
  · have hlt : n < c := by omega
    have hz : ¬ c - n = 0 := by omega
    go_enter Try.func122, Try.ntmps122
    go_wp2_with (at_builtin; refine Lib.wpList_append_run _ rfl (.tmp 23) (.tmp 24) 31 31 rfl (.slice a n c) (.slice (some ⟨q, 0, none⟩) 1 1) rfl rfl _ _ (hr _) ?_)
    go_ret
    exact HP.out
set_option maxRecDepth 100000 in
theorem oneInF (R : Nat → Int) (i j : Nat) : (inF R i j).oneCell' = true := by
  unfold inF
  rfl
set_option maxRecDepth 100000 in
set_option maxHeartbeats 4000000 in
theorem insIn_mid (w : World) (B : Nat) (a : Option Addr) (n c q k : Nat) (R : Nat → Int) (x : Int) (hk : k < n) (hB : B ≤ w.heap.size) (hn : n ≤ 100000) (h : EO w B 3 1 (.slice a n c) n (inF R)) (hx : BoxN w q x) (hq : (Value.slice a n c).ownBlock ≠ some q) :
    Calls Try.prog 122 #[.slice a n c, .int .i64 k, .slice (some ⟨q, 0, none⟩) 1 1] w fun e w' => InsIn w B (.slice a n c) n (insE R k x) e w' := by
  obtain ⟨g, hcc, rfl⟩ : ∃ g, c ≤ maxLen ∧ a = some ⟨g, 0, none⟩ := by
    obtain ⟨hl, ⟨h1, h2⟩ | ⟨g, cap, cur, hv, hB, hh, hn, hm, _⟩⟩ := h
    · omega
    · cases hv; exact ⟨g, hm, rfl⟩
  have hnc : n ≤ c := by
    obtain ⟨hl, ⟨h1, h2⟩ | ⟨g, cap, cur, hv, hB, hh, hn, hm, _⟩⟩ := h
    · omega
    · cases hv; exact hn
  unfold maxLen at hcc
  have hqg : q ≠ g := fun e => hq (by rw [e]; rfl)
  have hXc : ∀ j u, ((List.range 1).map (inVI x))[j]? = some u → w.cell? ⟨q, j, none⟩ = some u := fun j u hj => by
    rw [List.getElem?_map, Option.map_eq_some_iff] at hj
    obtain ⟨b, hb, rfl⟩ := hj
    obtain ⟨hj', rfl⟩ := List.getElem?_eq_some_iff.1 hb
    rw [List.getElem_range]
    have hj2 : j < 1 := by simpa using hj'
    obtain rfl : j = 0 := by omega
    exact hx.c0
  have h0 : ∀ i, i < k → inF (insE R k x) i = inF R i := fun i hi => by unfold inF; rw [insE_lt _ _ hi]
  have hX : (List.range 1).map (inF (insE R k x) k) = (List.range 1).map (inVI x) := by unfold inF; rw [insE_eq]; rfl
  have h2 : ∀ i, k ≤ i → inF (insE R k x) (i + 1) = inF R i := fun i hi => by unfold inF; rw [insE_gt _ _ (by omega), Nat.add_sub_cancel]
  have hX1 : ∀ u ∈ (List.range 1).map (inVI x), u.oneCell' = true := fun u hu => by
    obtain ⟨j, _, rfl⟩ := List.mem_map.1 hu
    exact oneInF (fun _ => x) 0 j
  obtain ⟨i0, hi, hz, hsz, hby⟩ := info_parts Try.infoInE
  have hkz : ¬ ((k : Int) = (n : Int)) := by omega
  have hkz' : ((k : Int) == (n : Int)) = false := by simp; omega
  have hin : k ≤ n := by omega
  have hik : (k : Int) ≤ (n : Int) := by omega
  have hck : ¬ c - k = 0 := by omega
  by_cases hroom : n + 1 ≤ c
  · obtain ⟨W1, W2, hc1, hc2, ho, hg, hsw⟩ := ins_shift (P := Try.prog) w.drew B 31 3 1 n c k g (inF R) (inF (insE R k x)) _ q Try.underlying31 (by rw [hi]; simp [hsz]) (EO.below h ((Below.refl _ w).drew)) hk hroom h0 hX h2 hXc hqg hX1 (oneInF R)
    have hov : ∀ lb cb, (callFunc 127 #[.slice (some ⟨q, 0, none⟩) 1 1, .slice (some ⟨g, (k + 1), none⟩) lb cb]).run Try.prog w = .ok (.value (.bool false)) w := fun lb cb => by
      obtain ⟨cs, hq1, hqs, _⟩ := (show w.rowIs q 3 1 (fun _ => .int .i64 x) from hx)
      obtain ⟨hl, ⟨h1, h2⟩ | ⟨g', cap, cur, hv, hB', hh, hn', hm, hs', _⟩⟩ := h
      · omega
      cases hv
      rw [run_callFunc_extern Try.func127 (by kernel_rfl) (by kernel_rfl) (by kernel_rfl) (e := Extern.SlicesOverlaps.overlaps #[31, 31] #[4]) (by kernel_rfl),
        Lib.run_overlaps_apart w 31 4 3 Try.underlying31 1 (fun w => by simp [sizeOf, typeInfo, hi, hsz]) ⟨q, 0, none⟩ ⟨g, (k + 1), none⟩ 1 1 lb cb hqg 3 3 cs.size cur.size (by simp [World.shape?, hq1]) (by simp [World.shape?, hh]) (by rw [hs']; omega) (by simp [World.frozen?, hq1]) (by simp [World.frozen?, hq1])]
      rfl
    rw [show n + 1 - (k + 1) = n - k by omega] at hc1
    try simp only [Nat.mul_one] at hc1
    try simp only [Nat.mul_one] at hc2
    have mixed : Try.prog.follows .mixedOrders = true := by kernel_rfl
    have hb5 : (0 : Int) ≤ (k : Int) + 1 := by omega
    have hb6 : ¬ c = k + 1 := by omega
    have hb7 : ¬ c = k := by omega
    have hb8 : k ≤ n + 1 := by omega
    have hb1 : ¬ (c : Int) < (n : Int) + 1 := by omega
    have hb2 : ¬ c - (k + 1) = 0 := by omega
    have hb3 : (k : Int) ≤ (n : Int) + 1 := by omega
    have htn : ((k : Int) + 1).toNat = k + 1 := by omega
    have htm : ((n : Int) + 1).toNat = n + 1 := by omega
    have hw1 : IntKind.i64.wrap ((k : Int) + 1) = (k : Int) + 1 := IntWalk.i64_in _ (by omega)
    have HP : Hid (InsIn w B (.slice (some ⟨g, 0, none⟩) n c) n (insE R k x) (.returned (.slice (some ⟨g, 0, none⟩) (n + 1) c)) W2) := ⟨⟨_, rfl, ho, .inl rfl⟩, ⟨hg.os, hg.tape, hg.output, hg.size, hg.block⟩⟩
    clear h hx hXc h0 hX h2 hX1 hi hz hsz hby ho hg hsw hq
    go_enter Try.func122, Try.ntmps122
    go_wp2_with (simp only [hov])
    go_region_law_o (refine step_copy_runI rfl _ _ 31 31 rfl _ _ (by simp [Act.eval, Act.put]) (by simp [Act.eval, Act.put]) (hc1 _ _ _) ?_)
    go_wp2_with (at_builtin; refine wpList_copy_runI _ rfl _ _ 31 31 rfl _ _ rfl rfl (hc2 _ _) ?_)
    go_ret
    exact HP.out
  · obtain ⟨cc, W1, W2, W3, hcc1, hcc2, hap, hc1, hc2, ho, hg⟩ := ins_grow (P := Try.prog) w B 31 3 3 i0 _ 1 8 n c k g (inF R) (inF (insE R k x)) _ q Try.underlying31 Try.underlying3 hi hz hsz hby rfl (by omega) (by omega) h hk hroom hn h0 hX h2 hB hXc (World.rowIs.lt hx) hX1 (oneInF R)
    have HP : Hid (InsIn w B (.slice (some ⟨g, 0, none⟩) n c) n (insE R k x) (.returned (.slice (some ⟨w.heap.size, 0, none⟩) (n + 1) cc)) W3) := ⟨⟨_, rfl, ho, .inr rfl⟩, ⟨hg.os, hg.tape, hg.output, hg.size, fun b hb _ => hg.block b hb (by simp)⟩⟩
    rw [show n + 1 - (k + 1) = n - k by omega] at hc2
    try simp only [Nat.mul_one] at hap
    try simp only [Nat.mul_one] at hc1
    try simp only [Nat.mul_one] at hc2
    have mixed : Try.prog.follows .mixedOrders = true := by kernel_rfl
    have hb5 : (0 : Int) ≤ (k : Int) + 1 := by omega
    have hb6 : ¬ cc = k + 1 := by omega
    have hb7 : ¬ c = k := by omega
    have hb9 : ¬ cc = k := by omega
    have hb8 : k ≤ n + 1 := by omega
    have hb1 : (c : Int) < (n : Int) + 1 := by omega
    have hb2 : ¬ cc - (k + 1) = 0 := by omega
    have hb2' : ¬ cc - k = 0 := by omega
    have hb3 : (k : Int) ≤ (n : Int) + 1 := by omega
    have htn : ((k : Int) + 1).toNat = k + 1 := by omega
    have hw1 : IntKind.i64.wrap ((k : Int) + 1) = (k : Int) + 1 := IntWalk.i64_in _ (by omega)
    clear h hx hXc h0 hX h2 hX1 hi hz hsz hby ho hg hq
    go_enter Try.func122, Try.ntmps122
    go_wp2_with (first
      | (at_builtin; refine Lib.wpList_append_run _ rfl (.tmp 34) (.tmp 39) 31 3 rfl _ _ rfl rfl _ _ (hap _) ?_)
      | (at_builtin; refine wpList_copy_runI _ rfl (.tmp 43) (.tmp 44) 31 31 rfl _ _ rfl rfl (hc1 _ _) ?_))
    go_region_law_o (refine step_copy_runI rfl _ _ 31 31 rfl _ _ (by simp [Act.eval, Act.put]) (by simp [Act.eval, Act.put]) (hc2 _ _ _) ?_)
    go_wp2
    go_ret
    exact HP.out
theorem insIn_any (w : World) (B : Nat) (a : Option Addr) (n c q k : Nat) (R : Nat → Int) (x : Int) (hk : k ≤ n) (hB : B ≤ w.heap.size) (hn : n ≤ 100000) (h : EO w B 3 1 (.slice a n c) n (inF R)) (hx : BoxN w q x) (hq : (Value.slice a n c).ownBlock ≠ some q) :
    Calls Try.prog 122 #[.slice a n c, .int .i64 k, .slice (some ⟨q, 0, none⟩) 1 1] w fun e w' => InsIn w B (.slice a n c) n (insE R k x) e w' := by
  rcases Nat.lt_or_ge k n with g | g
  · exact insIn_mid w B a n c q k R x g hB hn h hx hq
  · obtain rfl : k = n := by omega
    have hc : ∀ j, j < 1 → w.cell? ⟨q, 0 + j, none⟩ = some (inVI x j) := by
      intro j hj
      rw [Nat.zero_add]
      obtain rfl : j = 0 := by omega
      exact hx.c0
    refine (insIn_end w B a k c q R x hB hn h hc).mono ?_
    rintro e w' ⟨⟨v', rfl, ho, hloc⟩, hg⟩
    exact ⟨⟨v', rfl, EO.congr ho (fun i hi j _ => by unfold inF; rw [ins_end _ _ _ hi]), hloc⟩, hg⟩
end Go.Proofs.Ytdoacpnjggdojaa
