/-
  slices.Insert of one file, and put by path (written by tools/mkputfi.py).
-/
import Derived.Test.YtgcdoabcopihlaaGreatRowFi
import Derived.Test.YtgcdoabcopihlaaGreatFileF
import Derived.Test.YtgcdoabcopihlaaGreatInsG
import Derived.Test.YtgcdoabcopihlaaGreatBox3
import Derived.Shelf.RegionOpenPlain
import Derived.Laws.Externs
namespace Go.Proofs.YtgcdoabcopihlaaGreat
open Go.ChangeShapes Go.WideShapes Go.ChangeAt Go.RowKit
set_option linter.unusedVariables false
/-- A row that has grown by x is handed back. -/
def InsFi (w : World) (B : Nat) (v : Value) (n : Nat) (R : Nat → Fi) (e : Ending) (w' : World) : Prop := (∃ v', e = .returned v' ∧ EO w' B 51 3 v' (n + 1) (fiF R) ∧ (v'.ownBlock = v.ownBlock ∨ v'.ownBlock = some w.heap.size)) ∧ w.grownBy w' v.ownBlock
set_option maxRecDepth 100000 in
set_option maxHeartbeats 1000000 in
theorem insFi_end (w : World) (B : Nat) (a : Option Addr) (n c q : Nat) (R : Nat → Fi) (x : Fi) (hB : B ≤ w.heap.size) (hn : n ≤ 100000) (h : EO w B 51 3 (.slice a n c) n (fiF R)) (hx : ∀ j, j < 3 → w.cell? ⟨q, 0 + j, none⟩ = some (fiV x j)) :
    Calls Tryz.prog 107 #[.slice a n c, .int .i64 n, .slice (some ⟨q, 0, none⟩) 1 1] w fun e w' => InsFi w B (.slice a n c) n (updE R n x) e w' := by
  obtain ⟨v', w', hr, ho, hg, hloc⟩ := appFi w B _ n q R x hB hn h hx
  have hnc : n ≤ c := by
    obtain ⟨hl, ⟨h1, h2⟩ | ⟨g, cap, cur, hv, hB, hh, hn, _⟩⟩ := h
    · omega
    · cases hv; exact hn
  have HP : Hid (InsFi w B (.slice a n c) n (updE R n x) (.returned v') w') := ⟨⟨v', rfl, ho, hloc⟩, hg⟩
  clear h hx ho hg hloc
  by_cases hcn : c = n
  · subst hcn
    go_enter Tryz.func107, Tryz.ntmps107
    go_wp2_with (at_builtin; refine Lib.wpList_append_run _ rfl (.tmp 23) (.tmp 24) 23 23 rfl (.slice a c c) (.slice (some ⟨q, 0, none⟩) 1 1) rfl rfl _ _ (hr _) ?_)
    go_ret
    exact HP.out
  · have hlt : n < c := by omega
    have hz : ¬ c - n = 0 := by omega
    go_enter Tryz.func107, Tryz.ntmps107
    go_wp2_with (at_builtin; refine Lib.wpList_append_run _ rfl (.tmp 23) (.tmp 24) 23 23 rfl (.slice a n c) (.slice (some ⟨q, 0, none⟩) 1 1) rfl rfl _ _ (hr _) ?_)
    go_ret
    exact HP.out
set_option maxRecDepth 100000 in
theorem oneFiF (R : Nat → Fi) (i j : Nat) : (fiF R i j).oneCell' = true := by
  unfold fiF fiV
  split <;> rfl
set_option maxRecDepth 100000 in
set_option maxHeartbeats 4000000 in
theorem insFi_mid (w : World) (B : Nat) (a : Option Addr) (n c q k : Nat) (R : Nat → Fi) (x : Fi) (hk : k < n) (hB : B ≤ w.heap.size) (hn : n ≤ 100000) (h : EO w B 51 3 (.slice a n c) n (fiF R)) (hx : Box3 w q 51 (.string x.p) (.bool x.d) (.string x.t)) (hq : (Value.slice a n c).ownBlock ≠ some q) :
    Calls Tryz.prog 107 #[.slice a n c, .int .i64 k, .slice (some ⟨q, 0, none⟩) 1 1] w fun e w' => InsFi w B (.slice a n c) n (insE R k x) e w' := by
  obtain ⟨g, hcc, rfl⟩ : ∃ g, c ≤ maxLen ∧ a = some ⟨g, 0, none⟩ := by
    obtain ⟨hl, ⟨h1, h2⟩ | ⟨g, cap, cur, hv, hB, hh, hn, hm, _⟩⟩ := h
    · omega
    · cases hv; exact ⟨g, hm, rfl⟩
  have hnc : n ≤ c := by
    obtain ⟨hl, ⟨h1, h2⟩ | ⟨g, cap, cur, hv, hB, hh, hn, hm, _⟩⟩ := h
    · omega
    · cases hv; exact hn
  unfold maxLen at hcc
  have hqg : q ≠ g := fun e => hq (by rw [e]; rfl)
  have hXc : ∀ j u, ((List.range 3).map (fiV x))[j]? = some u → w.cell? ⟨q, j, none⟩ = some u := fun j u hj => by
    rw [List.getElem?_map, Option.map_eq_some_iff] at hj
    obtain ⟨b, hb, rfl⟩ := hj
    obtain ⟨hj', rfl⟩ := List.getElem?_eq_some_iff.1 hb
    rw [List.getElem_range]
    have hj2 : j < 3 := by simpa using hj'
    rcases (show j = 0 ∨ j = 1 ∨ j = 2 by omega) with rfl | rfl | rfl
    · exact hx.c0
    · exact hx.c1
    · exact hx.c2
  have h0 : ∀ i, i < k → fiF (insE R k x) i = fiF R i := fun i hi => by unfold fiF; rw [insE_lt _ _ hi]
  have hX : (List.range 3).map (fiF (insE R k x) k) = (List.range 3).map (fiV x) := by unfold fiF; rw [insE_eq]
  have h2 : ∀ i, k ≤ i → fiF (insE R k x) (i + 1) = fiF R i := fun i hi => by unfold fiF; rw [insE_gt _ _ (by omega), Nat.add_sub_cancel]
  have hX1 : ∀ u ∈ (List.range 3).map (fiV x), u.oneCell' = true := fun u hu => by
    obtain ⟨j, _, rfl⟩ := List.mem_map.1 hu
    exact oneFiF (fun _ => x) 0 j
  obtain ⟨i0, hi, hz, hsz, hby⟩ := info_parts Tryz.infoFi
  have hkz : ¬ ((k : Int) = (n : Int)) := by omega
  have hkz' : ((k : Int) == (n : Int)) = false := by simp; omega
  have hin : k ≤ n := by omega
  have hik : (k : Int) ≤ (n : Int) := by omega
  have hck : ¬ c - k = 0 := by omega
  by_cases hroom : n + 1 ≤ c
  · obtain ⟨W1, W2, hc1, hc2, ho, hg, hsw⟩ := ins_shift (P := Tryz.prog) w.drew B 23 51 3 n c k g (fiF R) (fiF (insE R k x)) _ q Tryz.underlying23 (by rw [hi]; simp [hsz]) (EO.below h ((Below.refl _ w).drew)) hk hroom h0 hX h2 hXc hqg hX1 (oneFiF R)
    have hov : ∀ lb cb, (callFunc 121 #[.slice (some ⟨q, 0, none⟩) 1 1, .slice (some ⟨g, (k + 1) * 3, none⟩) lb cb]).run Tryz.prog w = .ok (.value (.bool false)) w := fun lb cb => by
      obtain ⟨cs, hq1, hqs, _⟩ := hx
      obtain ⟨hl, ⟨h1, h2⟩ | ⟨g', cap, cur, hv, hB', hh, hn', hm, hs', _⟩⟩ := h
      · omega
      cases hv
      rw [run_callFunc_extern Tryz.func121 (by kernel_rfl) (by kernel_rfl) (by kernel_rfl) (e := Extern.SlicesOverlaps.overlaps #[23, 23] #[4]) (by kernel_rfl),
        Lib.run_overlaps_apart w 23 4 51 Tryz.underlying23 3 (fun w => by simp [sizeOf, typeInfo, hi, hsz]) ⟨q, 0, none⟩ ⟨g, (k + 1) * 3, none⟩ 1 1 lb cb hqg 51 51 cs.size cur.size (by simp [World.shape?, hq1]) (by simp [World.shape?, hh]) (by rw [hs']; omega) (by simp [World.frozen?, hq1]) (by simp [World.frozen?, hq1])]
      rfl
    rw [show n + 1 - (k + 1) = n - k by omega] at hc1
    have mixed : Tryz.prog.follows .mixedOrders = true := by kernel_rfl
    have hb5 : (0 : Int) ≤ (k : Int) + 1 := by omega
    have hb6 : ¬ c = k + 1 := by omega
    have hb7 : ¬ c = k := by omega
    have hb8 : k ≤ n + 1 := by omega
    have hb1 : ¬ (c : Int) < (n : Int) + 1 := by omega
    have hb2 : ¬ c - (k + 1) = 0 := by omega
    have hb3 : (k : Int) ≤ (n : Int) + 1 := by omega
    have htn : ((k : Int) + 1).toNat = k + 1 := by omega
    have htm : ((n : Int) + 1).toNat = n + 1 := by omega
    have hw1 : IntKind.i64.wrap ((k : Int) + 1) = (k : Int) + 1 := IntWalk.i64_in _ (by omega)
    have HP : Hid (InsFi w B (.slice (some ⟨g, 0, none⟩) n c) n (insE R k x) (.returned (.slice (some ⟨g, 0, none⟩) (n + 1) c)) W2) := ⟨⟨_, rfl, ho, .inl rfl⟩, ⟨hg.os, hg.tape, hg.output, hg.size, hg.block⟩⟩
    clear h hx hXc h0 hX h2 hX1 hi hz hsz hby ho hg hsw hq
    go_enter Tryz.func107, Tryz.ntmps107
    go_wp2_with (simp only [hov])
    go_region_law_o (refine step_copy_runI rfl _ _ 23 23 rfl _ _ (by simp [Act.eval, Act.put]) (by simp [Act.eval, Act.put]) (hc1 _ _ _) ?_)
    go_wp2_with (at_builtin; refine wpList_copy_runI _ rfl _ _ 23 23 rfl _ _ rfl rfl (hc2 _ _) ?_)
    go_ret
    exact HP.out
  · obtain ⟨cc, W1, W2, W3, hcc1, hcc2, hap, hc1, hc2, ho, hg⟩ := ins_grow (P := Tryz.prog) w B 23 3 51 i0 _ 3 40 n c k g (fiF R) (fiF (insE R k x)) _ q Tryz.underlying23 Tryz.underlying3 hi hz hsz hby rfl (by omega) (by omega) h hk hroom hn h0 hX h2 hB hXc (World.rowIs.lt hx) hX1 (oneFiF R)
    have HP : Hid (InsFi w B (.slice (some ⟨g, 0, none⟩) n c) n (insE R k x) (.returned (.slice (some ⟨w.heap.size, 0, none⟩) (n + 1) cc)) W3) := ⟨⟨_, rfl, ho, .inr rfl⟩, ⟨hg.os, hg.tape, hg.output, hg.size, fun b hb _ => hg.block b hb (by simp)⟩⟩
    rw [show n + 1 - (k + 1) = n - k by omega] at hc2
    have mixed : Tryz.prog.follows .mixedOrders = true := by kernel_rfl
    have hb5 : (0 : Int) ≤ (k : Int) + 1 := by omega
    have hb6 : ¬ cc = k + 1 := by omega
    have hb7 : ¬ c = k := by omega
    have hb9 : ¬ cc = k := by omega
    have hb8 : k ≤ n + 1 := by omega
    have hb1 : (c : Int) < (n : Int) + 1 := by omega
    have hb2 : ¬ cc - (k + 1) = 0 := by omega
    have hb2' : ¬ cc - k = 0 := by omega
    have hb3 : (k : Int) ≤ (n : Int) + 1 := by omega
    have htn : ((k : Int) + 1).toNat = k + 1 := by omega
    have hw1 : IntKind.i64.wrap ((k : Int) + 1) = (k : Int) + 1 := IntWalk.i64_in _ (by omega)
    clear h hx hXc h0 hX h2 hX1 hi hz hsz hby ho hg hq
    go_enter Tryz.func107, Tryz.ntmps107
    go_wp2_with (first
      | (at_builtin; refine Lib.wpList_append_run _ rfl (.tmp 34) (.tmp 39) 23 3 rfl _ _ rfl rfl _ _ (hap _) ?_)
      | (at_builtin; refine wpList_copy_runI _ rfl (.tmp 43) (.tmp 44) 23 23 rfl _ _ rfl rfl (hc1 _ _) ?_))
    go_region_law_o (refine step_copy_runI rfl _ _ 23 23 rfl _ _ (by simp [Act.eval, Act.put]) (by simp [Act.eval, Act.put]) (hc2 _ _ _) ?_)
    go_wp2
    go_ret
    exact HP.out
theorem insFi_any (w : World) (B : Nat) (a : Option Addr) (n c q k : Nat) (R : Nat → Fi) (x : Fi) (hk : k ≤ n) (hB : B ≤ w.heap.size) (hn : n ≤ 100000) (h : EO w B 51 3 (.slice a n c) n (fiF R)) (hx : Box3 w q 51 (.string x.p) (.bool x.d) (.string x.t)) (hq : (Value.slice a n c).ownBlock ≠ some q) :
    Calls Tryz.prog 107 #[.slice a n c, .int .i64 k, .slice (some ⟨q, 0, none⟩) 1 1] w fun e w' => InsFi w B (.slice a n c) n (insE R k x) e w' := by
  rcases Nat.lt_or_ge k n with g | g
  · exact insFi_mid w B a n c q k R x g hB hn h hx hq
  · obtain rfl : k = n := by omega
    have hc : ∀ j, j < 3 → w.cell? ⟨q, 0 + j, none⟩ = some (fiV x j) := by
      intro j hj
      rw [Nat.zero_add]
      rcases (show j = 0 ∨ j = 1 ∨ j = 2 by omega) with rfl | rfl | rfl
      · exact hx.c0
      · exact hx.c1
      · exact hx.c2
    refine (insFi_end w B a k c q R x hB hn h hc).mono ?_
    rintro e w' ⟨⟨v', rfl, ho, hloc⟩, hg⟩
    exact ⟨⟨v', rfl, EO.congr ho (fun i hi j _ => by unfold fiF; rw [ins_end _ _ _ hi]), hloc⟩, hg⟩
theorem grown_ofF {w u w' : World} {o : Option Nat} (hb : Below w.heap.size w u) (hg : u.grownBy w' o) : w.grownBy w' o := ⟨hg.os.trans hb.os, hg.tape.trans hb.tape, hg.output.trans hb.output, Nat.le_trans hb.size hg.size, fun g h1 h2 => (hg.block g (Nat.lt_of_lt_of_le h1 hb.size) h2).trans (hb.block g h1)⟩
set_option maxRecDepth 100000 in
set_option maxHeartbeats 1000000 in
theorem putFi_there (B g n c : Nat) (R : Nat → Fi) (x : Fi) (k : Nat) (hS : (∀ i, i < n → (R i).p.size ≤ 40) ∧ x.p.size ≤ 40) (hP : Pos (fun i => ord (R i).p) n (ord x.p) k) (hk : k < n) (he : ord (R k).p = ord x.p) (hn : n ≤ 1048576) (w : World) (h : EO w B 51 3 (.slice (some ⟨g, 0, none⟩) n c) n (fiF R)) :
    Calls Tryz.prog 80 #[.slice (some ⟨g, 0, none⟩) n c, .string x.p, .agg #[.string x.p, .bool x.d, .string x.t], .func (.func 31) #[] #[]] w fun e w' => e = .returned (.slice (some ⟨g, 0, none⟩) n c) ∧ EO w' B 51 3 (.slice (some ⟨g, 0, none⟩) n c) n (fiF (updE R k x)) ∧ OnlyB g w w' := by
  have QE : Hid (∀ (w : World), Els w 3 (some ⟨g, 0, none⟩) n (fiF R) → Calls Tryz.prog 103 #[.slice (some ⟨g, 0, none⟩) n c, .string x.p, .func (.func 31) #[] #[]] w fun e w' => e = .returned (.tuple #[.int .i64 k, .bool true]) ∧ Below w.heap.size w w') := fun w hw => searchFile_any _ n c R x.p hS k hP hn w hw true (okB_yes ⟨hk, he⟩).symm
  have E : Hid (EO w B 51 3 (.slice (some ⟨g, 0, none⟩) n c) n (fiF R)) := h
  have A1 : Hid (Below w.heap.size w (w.alloc (.cells #[.string x.p, .bool x.d, .string x.t] 51))) := (Below.refl _ _).alloc (Nat.le_refl _) _
  have X : Hid (Box3 (w.alloc (.cells #[.string x.p, .bool x.d, .string x.t] 51)) w.heap.size 51 (.string x.p) (.bool x.d) (.string x.t)) := Box3.madeAt rfl _ _ _ _
  have hk' : (k : Int) < (n : Int) := by omega
  have hk0 : ¬ (k : Int) < 0 := by omega
  clear h hP he hS
  go_enter Tryz.func80, Tryz.ntmps80
  go_wp2_with fail
  generalize (w.alloc (.cells #[.string x.p, .bool x.d, .string x.t] 51)) = v1 at *
  refine (QE.out _ (E.out.els.below A1.out)).mono ?_
  rintro e v2 ⟨rfl, hb⟩
  have A2 : Hid (Below w.heap.size w v2) := A1.out.trans (hb.mono A1.out.size)
  have E2 : Hid (EO v2 B 51 3 (.slice (some ⟨g, 0, none⟩) n c) n (fiF R)) := E.out.below A2.out
  replace X : Hid (Box3 v2 w.heap.size 51 (.string x.p) (.bool x.d) (.string x.t)) := X.out.below hb
  have gw : g < w.heap.size := (E.out.ge g rfl).2
  obtain ⟨G, r0, -⟩ := E2.out.rowE
  cases r0.a (by omega)
  have x0 := X.out.c0
  have t0 := r0.c k hk 0 (by omega)
  have u0 := r0.z (k * 3) (by have := ltE hk (show 0 < 3 by omega); omega)
  have x1 := X.out.c1
  have t1 := r0.c k hk 1 (by omega)
  have u1 := r0.z (k * 3 + 1) (by have := ltE hk (show 1 < 3 by omega); omega)
  have x2 := X.out.c2
  have t2 := r0.c k hk 2 (by omega)
  have u2 := r0.z (k * 3 + 2) (by have := ltE hk (show 2 < 3 by omega); omega)
  rw [Nat.add_zero] at t0
  have E3 : Hid (EO (((v2.setCell ⟨g, k * 3, none⟩ (.string x.p)).setCell ⟨g, k * 3 + 1, none⟩ (.bool x.d)).setCell ⟨g, k * 3 + 2, none⟩ (.string x.t)) B 51 3 (.slice (some ⟨g, 0, none⟩) n c) n (fiF (updE R k x))) := (((E2.out.set (k := k) (l := 0) hk (by omega) (.string x.p)).set (k := k) (l := 1) hk (by omega) (.bool x.d)).set (k := k) (l := 2) hk (by omega) (.string x.t)).congr (fun i hi j hj => by
    unfold setF fiF updE
    by_cases ei : i = k
    · subst ei
      rcases (show j = 0 ∨ j = 1 ∨ j = 2 by omega) with rfl | rfl | rfl <;> simp [fiV]
    · simp [ei])
  have O3 : Hid (OnlyB g w (((v2.setCell ⟨g, k * 3, none⟩ (.string x.p)).setCell ⟨g, k * 3 + 1, none⟩ (.bool x.d)).setCell ⟨g, k * 3 + 2, none⟩ (.string x.t))) := (((((OnlyB.refl g w).below A2.out).setCell (k * 3) _).setCell (k * 3 + 1) _).setCell (k * 3 + 2) _)
  clear r0 E E2 A1 A2 QE hb X
  go_wp2
  go_ret
  exact ⟨rfl, E3.out, O3.out⟩
/-- A row that has grown by one is handed back; other elder blocks are as they were. -/
def PutFi (w : World) (B : Nat) (v : Value) (n : Nat) (R : Nat → Fi) (e : Ending) (w' : World) : Prop := (∃ v', e = .returned v' ∧ EO w' B 51 3 v' (n + 1) (fiF R) ∧ (v'.ownBlock = v.ownBlock ∨ ∃ g, v'.ownBlock = some g ∧ w.heap.size ≤ g)) ∧ w.grownBy w' v.ownBlock
set_option maxRecDepth 100000 in
set_option maxHeartbeats 1000000 in
theorem putFi_new (B : Nat) (a : Option Addr) (n c k : Nat) (R : Nat → Fi) (x : Fi) (hS : (∀ i, i < n → (R i).p.size ≤ 40) ∧ x.p.size ≤ 40) (hP : Pos (fun i => ord (R i).p) n (ord x.p) k) (hno : ¬ (k < n ∧ ord (R k).p = ord x.p)) (hn : n ≤ 100000) (w : World) (hB : B ≤ w.heap.size) (h : EO w B 51 3 (.slice a n c) n (fiF R)) :
    Calls Tryz.prog 80 #[.slice a n c, .string x.p, .agg #[.string x.p, .bool x.d, .string x.t], .func (.func 31) #[] #[]] w fun e w' => PutFi w B (.slice a n c) n (insE R k x) e w' := by
  have QE : Hid (∀ (w : World), Els w 3 a n (fiF R) → Calls Tryz.prog 103 #[.slice a n c, .string x.p, .func (.func 31) #[] #[]] w fun e w' => e = .returned (.tuple #[.int .i64 k, .bool false]) ∧ Below w.heap.size w w') := fun w hw => searchFile_any _ n c R x.p hS k hP (by omega) w hw false (okB_no hno).symm
  have E : Hid (EO w B 51 3 (.slice a n c) n (fiF R)) := h
  have A1 : Hid (Below w.heap.size w (w.alloc (.cells #[.string x.p, .bool x.d, .string x.t] 51))) := (Below.refl _ _).alloc (Nat.le_refl _) _
  have X : Hid (Box3 (w.alloc (.cells #[.string x.p, .bool x.d, .string x.t] 51)) w.heap.size 51 (.string x.p) (.bool x.d) (.string x.t)) := Box3.madeAt rfl _ _ _ _
  have IN : Hid (∀ (w : World) (q : Nat), B ≤ w.heap.size → EO w B 51 3 (.slice a n c) n (fiF R) → Box3 w q 51 (.string x.p) (.bool x.d) (.string x.t) → (Value.slice a n c).ownBlock ≠ some q → Calls Tryz.prog 107 #[.slice a n c, .int .i64 k, .slice (some ⟨q, 0, none⟩) 1 1] w fun e w' => InsFi w B (.slice a n c) n (insE R k x) e w') := fun w q h1 h2 h3 h4 => insFi_any w B a n c q k R x hP.1 h1 hn h2 h3 h4
  clear h hP hno hS
  go_enter Tryz.func80, Tryz.ntmps80
  go_wp2_with fail
  generalize (w.alloc (.cells #[.string x.p, .bool x.d, .string x.t] 51)) = v1 at *
  refine (QE.out _ (E.out.els.below A1.out)).mono ?_
  rintro e v2 ⟨rfl, hb⟩
  have A2 : Hid (Below w.heap.size w v2) := A1.out.trans (hb.mono A1.out.size)
  replace X : Hid (Box3 v2 w.heap.size 51 (.string x.p) (.bool x.d) (.string x.t)) := X.out.below hb
  have x0 := X.out.c0
  have x1 := X.out.c1
  have x2 := X.out.c2
  have A3 : Hid (Below w.heap.size w (v2.alloc (.cells #[.string x.p, .bool x.d, .string x.t] 51))) := A2.out.alloc A2.out.size _
  have X3 : Box3 (v2.alloc (.cells #[.string x.p, .bool x.d, .string x.t] 51)) v2.heap.size 51 (.string x.p) (.bool x.d) (.string x.t) := Box3.madeAt rfl _ _ _ _
  have C3 : Hid (Box3 (v2.alloc (.cells #[.string x.p, .bool x.d, .string x.t] 51)) v2.heap.size 51 (.string x.p) (.bool x.d) (.string x.t)) := X3
  have N3 : Hid ((Value.slice a n c).ownBlock ≠ some v2.heap.size) := fun e => absurd (EO.ge (E.out.below A2.out) _ e).2 (Nat.lt_irrefl _)
  clear hb X3 QE A1 X
  go_wp2_with fail
  generalize (v2.alloc (.cells #[.string x.p, .bool x.d, .string x.t] 51)) = v3 at *
  refine (IN.out _ _ (Nat.le_trans hB A3.out.size) (E.out.below A3.out) C3.out N3.out).mono ?_
  rintro e v4 ⟨⟨v', rfl, ho, hloc⟩, hg⟩
  have HP : Hid (PutFi w B (.slice a n c) n (insE R k x) (.returned v') v4) := ⟨⟨v', rfl, ho, hloc.imp id (fun e => ⟨_, e, A3.out.size⟩)⟩, grown_ofF A3.out hg⟩
  clear ho hloc hg E A2 A3 C3 IN N3
  go_wp2
  go_ret
  exact HP.out
end Go.Proofs.YtgcdoabcopihlaaGreat
