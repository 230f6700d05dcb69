/-
  Rows of spans; besides of the program (written by tools/mkside.py).
-/
import Derived.Test.YtpljdlgjeeikkaaDoorSideM
import Derived.Test.YtpljdlgjeeikkaaDoorTreeI
namespace Go.Proofs.YtpljdlgjeeikkaaDoor
open Go.ChangeShapes Go.WideShapes Go.ChangeAt Go.RowKit
set_option linter.unusedVariables false
def spV (x : Nat × Nat) : Nat → Value
  | 0 => .int .i64 (x.1 : Int)
  | _ => .int .i64 (x.2 : Int)
/-- The cells of spans. -/
def spF (S : Nat → Nat × Nat) (i j : Nat) : Value := spV (S i) j
theorem Els.spC {w : World} {b off n : Nat} {S : Nat → Nat × Nat} (h : ∀ i, i < n → ∀ j, j < 2 → w.cell? ⟨b, off + i * 2 + j, none⟩ = some (spF S i j)) (k : Nat) (hk : k < n) : w.cell? ⟨b, off + k * 2, none⟩ = some (.int .i64 ((S k).1 : Int)) ∧ w.cell? ⟨b, off + k * 2 + 1, none⟩ = some (.int .i64 ((S k).2 : Int)) := ⟨h k hk 0 (by omega), h k hk 1 (by omega)⟩
theorem Tryd.infoSp : (Tryd.prog.info? 52).map (fun i => (i.zero, i.size, i.bytes)) = some (some (.agg #[.int .i64 0, .int .i64 0]), 2, 16) := by kernel_rfl
set_option maxRecDepth 100000 in
theorem appSp (w : World) (B : Nat) (v : Value) (n q : Nat) (R : Nat → Nat × Nat) (x : Nat × Nat) (hB : B ≤ w.heap.size) (hn : n ≤ 100000) (h : EO w B 52 2 v n (spF R)) (hx : ∀ j, j < 2 → w.cell? ⟨q, 0 + j, none⟩ = some (spV x j)) :
    ∃ v' w', (∀ ty, (Builtin.append_ #[49, 49] ty #[v, .slice (some ⟨q, 0, none⟩) 1 1]).run Tryd.prog w = .ok v' w') ∧ EO w' B 52 2 v' (n + 1) (spF (updE R n x)) ∧ w.grownBy w' v.ownBlock ∧ (v'.ownBlock = v.ownBlock ∨ v'.ownBlock = some w.heap.size) := by
  obtain ⟨i, hi, hz, hsz, hby⟩ := info_parts Tryd.infoSp
  obtain ⟨v', w', hr, ho, hg, _, hloc⟩ := run_append_own_at (P := Tryd.prog) w B 49 49 52 i _ 2 16 Tryd.underlying49 hi hz hsz hby rfl (by decide) v n _ h ⟨q, 0, none⟩ 1 1 ((List.range 2).map (spV x)) (by simp) (fun j u hj => by
    rw [Go.WideShapes.add_plain]
    rw [List.getElem?_map, Option.map_eq_some_iff] at hj
    obtain ⟨b, hb, rfl⟩ := hj
    obtain ⟨hj', rfl⟩ := List.getElem?_eq_some_iff.1 hb
    rw [List.getElem_range]
    exact hx j (by simpa using hj')) (fun u hu => by
      obtain ⟨j, hj, rfl⟩ := List.mem_map.1 hu
      have := List.mem_range.1 hj
      rcases (show j = 0 ∨ j = 1 by omega) with rfl | rfl <;> rfl) (by unfold maxLen; omega) (by omega) hB
  refine ⟨v', w', fun ty => hr, ?_, hg, hloc⟩
  unfold EO
  rw [elv_snoc, elv_congr (G := spF R) (fun i hi j hj => by unfold spF updE; rw [if_neg (by omega)])]
  have e : (List.range 2).map (spF (updE R n x) n) = (List.range 2).map (spV x) := by unfold spF updE; simp
  rw [e]
  exact ho

/-- Spans of one's own are handed back. -/
def RetSp (L : List (Nat × Nat)) (B : Nat) (e : Ending) (w : World) : Prop := ∃ a c, e = .returned (.slice a L.length c) ∧ EO w B 52 2 (.slice a L.length c) L.length (spF (entS L))
theorem EO.snocSp {w : World} {B : Nat} {v : Value} {L : List (Nat × Nat)} {x : Nat × Nat} (h : EO w B 52 2 v (L.length + 1) (spF (updE (entS L) L.length x))) : EO w B 52 2 v (L ++ [x]).length (spF (entS (L ++ [x]))) := by
  have el : (L ++ [x]).length = L.length + 1 := by simp
  rw [el]
  refine EO.congr h (fun i hi j hj => ?_)
  unfold spF
  rcases Nat.lt_or_ge i L.length with q | q
  · rw [updE_ne _ _ (by omega), entS_app _ _ q]
  · obtain rfl : i = L.length := by omega
    rw [updE_eq, entS_last]
set_option maxRecDepth 100000 in
set_option maxHeartbeats 4000000 in
theorem besides_any (n : Nat) : ∀ (p q k : Nat), q - p = n → p ≤ k → k < q → q ≤ 1000 → ∀ w : World,
    Calls Tryd.prog 26 #[.int .i64 (k : Int), .agg #[.int .i64 (p : Int), .int .i64 (q : Int)]] w fun e w' => RetSp (sideT p q k) w.heap.size e w' ∧ Below w.heap.size w w' := by
  induction n using Nat.strongRecOn with
  | ind n ih =>
    intro p q k e h1 h2 hq w
    have W1 : Hid (Below w.heap.size w (w.alloc (.cells #[.int .i64 (p : Int), .int .i64 (q : Int)] 52))) := (Below.refl _ _).alloc (Nat.le_refl _) _
    have X1 : Hid (Box2 (w.alloc (.cells #[.int .i64 (p : Int), .int .i64 (q : Int)] 52)) w.heap.size 52 (.int .i64 (p : Int)) (.int .i64 (q : Int))) := Box2.made _ _ _ _
    rcases (show n = 1 ∨ 2 ≤ n by omega) with hn | hn
    · have HR : Hid (∀ w', RetSp (sideT p q k) w.heap.size (.returned (.slice none 0 0)) w') := fun w' => by
        rw [sideT_one _ _ _ (by omega)]
        exact ⟨none, 0, rfl, EO.nil _ _ _ _ _⟩
      have e1 : (((q : Int) - (p : Int)) == 1) = true := by simp; omega
      generalize RetSp (sideT p q k) w.heap.size = RS at *
      clear ih X1
      go_enter Tryd.func26, Tryd.ntmps26
      go_wp2
      go_ret
      exact ⟨HR.out _, W1.out⟩
    · have g1 := gh_lt hn
      have g0 := gh_pos (n := n) (by omega)
      obtain ⟨g, hg⟩ : ∃ g, g = gh n := ⟨_, rfl⟩
      obtain ⟨m, hm⟩ : ∃ m, m = p + g := ⟨_, rfl⟩
      have GH : Hid (∀ w : World, Calls Tryd.prog 47 #[.int .i64 ((q : Int) - (p : Int))] w fun e w' => e = .returned (.int .i64 (g : Int)) ∧ w = w') := fun w => by
        have := greaterHalf_any n (by omega) w
        rw [← hg] at this
        rwa [show ((q : Int) - (p : Int)) = (n : Int) from by omega]
      have e1 : (((q : Int) - (p : Int)) == 1) = false := by simp; omega
      have wq : IntKind.i64.wrap ((q : Int) - (p : Int)) = (q : Int) - (p : Int) := IntWalk.i64_in _ (by omega)
      have wm : IntKind.i64.wrap (m : Int) = (m : Int) := IntWalk.i64_in _ (by omega)
      have am : (p : Int) + (g : Int) = (m : Int) := by omega
      have lo : Hid (k < m → ∀ w : World, Calls Tryd.prog 26 #[.int .i64 (k : Int), .agg #[.int .i64 (p : Int), .int .i64 (m : Int)]] w fun e w' => RetSp (sideT p m k) w.heap.size e w' ∧ Below w.heap.size w w') := fun hk w => ih (m - p) (by omega) p m k rfl h1 hk (by omega) w
      have hi : Hid (¬ k < m → ∀ w : World, Calls Tryd.prog 26 #[.int .i64 (k : Int), .agg #[.int .i64 (m : Int), .int .i64 (q : Int)]] w fun e w' => RetSp (sideT m q k) w.heap.size e w' ∧ Below w.heap.size w w') := fun hk w => ih (q - m) (by omega) m q k rfl (by omega) h2 hq w
      have sl : Hid (k < m → sideT p q k = sideT p m k ++ [(m, q)] ∧ (sideT p m k).length ≤ 1000) := fun hk => ⟨sideT_lo p q k m (by omega) (by rw [e, ← hg]; exact hm) hk, by rw [side_len rfl h1 hk]; have := lenT_le (n := m - p) (k := k - p); omega⟩
      have sh : Hid (¬ k < m → sideT p q k = sideT m q k ++ [(p, m)] ∧ (sideT m q k).length ≤ 1000) := fun hk => ⟨sideT_hi p q k m (by omega) (by rw [e, ← hg]; exact hm) hk, by rw [side_len rfl (by omega) h2]; have := lenT_le (n := q - m) (k := k - m); omega⟩
      have kd : Hid (k < m ∨ ¬ k < m) := by show _ ∨ _; omega
      clear ih e h1 h2 hq g1 g0 hg hm hn
      go_enter Tryd.func26, Tryd.ntmps26
      go_upto_region 3 with fail
      generalize (w.alloc (.cells #[.int .i64 (p : Int), .int .i64 (q : Int)] 52)) = v0 at *
      obtain ⟨pb, hpb⟩ : ∃ x, x = w.heap.size := ⟨_, rfl⟩
      rw [← hpb] at X1 ⊢
      clear hpb
      have H : Below v0.heap.size v0 v0.drew := (Below.refl _ _).drew
      refine wp_region_noPanic ?_
      refine wp_region_held_drew (S := fun w' => (Below v0.heap.size v0 w')) (by kernel_rfl) H (fun _ => ?_)
      generalize v0.drew = y0 at *
      refine wpAnyH_take (i := 0) (v := .pointer (some ⟨pb, 0, none⟩)) rfl (by kernel_rfl) (by kernel_rfl) (by kernel_rfl) (fun _ _ _ h => h) (Or.inl ⟨by rfl, ?_⟩) H ?_
      · intro w' hSw; go_simp
      change wpAnyH _ _ _ _ _ _ _ { tmps := #[_, _, _, _, _, _, _, _, _, _, _, _, _, _, _, _, _, _, _, _, _, _, _, _, _, _, _, _, _, _, _, _, _, _, _, _, _, _, _, _, _, _, _, _, _, _, _, _], defers := _ } _
      refine wpAnyH_take (i := 1) (v := .int .i64 (p : Int)) rfl (by kernel_rfl) (by kernel_rfl) (by kernel_rfl) (fun _ _ _ h => h) (Or.inl ⟨by rfl, ?_⟩) H ?_
      · intro w' hSw; have t0 := (X1.out.below hSw).c0; have t1 := (X1.out.below hSw).c1; clear hSw; go_simp
      change wpAnyH _ _ _ _ _ _ _ { tmps := #[_, _, _, _, _, _, _, _, _, _, _, _, _, _, _, _, _, _, _, _, _, _, _, _, _, _, _, _, _, _, _, _, _, _, _, _, _, _, _, _, _, _, _, _, _, _, _, _], defers := _ } _
      refine wpAnyH_take (i := 2) (v := .pointer (some ⟨pb, 1, none⟩)) rfl (by kernel_rfl) (by kernel_rfl) (by kernel_rfl) (fun _ _ _ h => h) (Or.inl ⟨by rfl, ?_⟩) H ?_
      · intro w' hSw; go_simp
      change wpAnyH _ _ _ _ _ _ _ { tmps := #[_, _, _, _, _, _, _, _, _, _, _, _, _, _, _, _, _, _, _, _, _, _, _, _, _, _, _, _, _, _, _, _, _, _, _, _, _, _, _, _, _, _, _, _, _, _, _, _], defers := _ } _
      refine wpAnyH_take (i := 3) (v := .int .i64 (q : Int)) rfl (by kernel_rfl) (by kernel_rfl) (by kernel_rfl) (fun _ _ _ h => h) (Or.inl ⟨by rfl, ?_⟩) H ?_
      · intro w' hSw; have t0 := (X1.out.below hSw).c0; have t1 := (X1.out.below hSw).c1; clear hSw; go_simp
      change wpAnyH _ _ _ _ _ _ _ { tmps := #[_, _, _, _, _, _, _, _, _, _, _, _, _, _, _, _, _, _, _, _, _, _, _, _, _, _, _, _, _, _, _, _, _, _, _, _, _, _, _, _, _, _, _, _, _, _, _, _], defers := _ } _
      refine wpAnyH_take (i := 4) (v := .pointer (some ⟨pb, 0, none⟩)) rfl (by kernel_rfl) (by kernel_rfl) (by kernel_rfl) (fun _ _ _ h => h) (Or.inl ⟨by rfl, ?_⟩) H ?_
      · intro w' hSw; go_simp
      change wpAnyH _ _ _ _ _ _ _ { tmps := #[_, _, _, _, _, _, _, _, _, _, _, _, _, _, _, _, _, _, _, _, _, _, _, _, _, _, _, _, _, _, _, _, _, _, _, _, _, _, _, _, _, _, _, _, _, _, _, _], defers := _ } _
      refine wpAnyH_take (i := 5) (v := .int .i64 (p : Int)) rfl (by kernel_rfl) (by kernel_rfl) (by kernel_rfl) (fun _ _ _ h => h) (Or.inl ⟨by rfl, ?_⟩) H ?_
      · intro w' hSw; have t0 := (X1.out.below hSw).c0; have t1 := (X1.out.below hSw).c1; clear hSw; go_simp
      change wpAnyH _ _ _ _ _ _ _ { tmps := #[_, _, _, _, _, _, _, _, _, _, _, _, _, _, _, _, _, _, _, _, _, _, _, _, _, _, _, _, _, _, _, _, _, _, _, _, _, _, _, _, _, _, _, _, _, _, _, _], defers := _ } _
      refine wpAnyH_take (i := 6) (v := .int .i64 ((q : Int) - (p : Int))) rfl (by kernel_rfl) (by kernel_rfl) (by kernel_rfl) (fun _ _ _ h => h) (Or.inl ⟨by rfl, ?_⟩) H ?_
      · intro w' hSw; go_simp
      change wpAnyH _ _ _ _ _ _ _ { tmps := #[_, _, _, _, _, _, _, _, _, _, _, _, _, _, _, _, _, _, _, _, _, _, _, _, _, _, _, _, _, _, _, _, _, _, _, _, _, _, _, _, _, _, _, _, _, _, _, _], defers := _ } _
      refine wpAnyH_ready (rs := [7]) (by kernel_rfl) (by simp) ?_
      refine AllReadyH.cons rfl (fun KK hK => ?_) AllReadyH.nil
      go_simp
      refine (GH.out _).mono ?_
      rintro e _ ⟨rfl, rfl⟩
      refine hK.out _ _ H (fun _ => ?_)
      clear hK KK
      change wpAnyH _ _ _ _ _ _ _ { tmps := #[_, _, _, _, _, _, _, _, _, _, _, _, _, _, _, _, _, _, _, _, _, _, _, _, _, _, _, _, _, _, _, _, _, _, _, _, _, _, _, _, _, _, _, _, _, _, _, _], defers := _ } _
      refine wpAnyH_take (i := 8) (v := .int .i64 (m : Int)) rfl (by kernel_rfl) (by kernel_rfl) (by kernel_rfl) (fun _ _ _ h => h) (Or.inl ⟨by rfl, ?_⟩) H ?_
      · intro w' hSw; go_simp
      change wpAnyH _ _ _ _ _ _ _ { tmps := #[_, _, _, _, _, _, _, _, _, _, _, _, _, _, _, _, _, _, _, _, _, _, _, _, _, _, _, _, _, _, _, _, _, _, _, _, _, _, _, _, _, _, _, _, _, _, _, _], defers := _ } _
      refine wpAnyH_take (i := 9) (v := .int .i64 (m : Int)) rfl (by kernel_rfl) (by kernel_rfl) (by kernel_rfl) (fun _ _ _ h => h) (Or.inl ⟨by rfl, ?_⟩) H ?_
      · intro w' hSw; go_simp
      change wpAnyH _ _ _ _ _ _ _ { tmps := #[_, _, _, _, _, _, _, _, _, _, _, _, _, _, _, _, _, _, _, _, _, _, _, _, _, _, _, _, _, _, _, _, _, _, _, _, _, _, _, _, _, _, _, _, _, _, _, _], defers := _ } _
      refine wpAnyH_done (by kernel_rfl) ?_ _
      refine NoPanic.normal ?_
      have W2 : Hid (Below w.heap.size w y0) := W1.out.trans (H.mono W1.out.size)
      have X2 : Hid (Box2 y0 pb 52 (.int .i64 (p : Int)) (.int .i64 (q : Int))) := X1.out.below H
      clear H W1 X1 GH e1 wq wm am
      have RR : Hid (∀ e w', RetSp (sideT p q k) w.heap.size e w' ∧ Below w.heap.size w w' → RetSp (sideT p q k) w.heap.size e w' ∧ Below w.heap.size w w') := fun _ _ h => h
      rcases kd.out with hk | hk
      · obtain ⟨sd, sz⟩ := sl.out hk
        have CB : Hid (∀ w : World, Calls Tryd.prog 26 #[.int .i64 (k : Int), .agg #[.int .i64 (p : Int), .int .i64 (m : Int)]] w fun e w' => RetSp (sideT p m k) w.heap.size e w' ∧ Below w.heap.size w w') := lo.out hk
        have SD : Hid _ := sd
        clear sd
        generalize sideT p m k = SL at *
        have hki : (k : Int) < (m : Int) := by omega
        clear lo hi sl sh kd RR hk
        go_upto_region 5 with fail
        generalize y0 = v0 at *
        have H : Below v0.heap.size v0 v0.drew := (Below.refl _ _).drew
        refine wp_region_noPanic ?_
        refine wp_region_held_drew (S := fun w' => Below v0.heap.size v0 w') (by kernel_rfl) H (fun _ => ?_)
        generalize v0.drew = y0 at *
        refine wpAnyH_take (i := 0) (v := .int .i64 (k : Int)) rfl (by kernel_rfl) (by kernel_rfl) (by kernel_rfl) (fun _ _ _ h => h) (Or.inl ⟨by rfl, ?_⟩) H ?_
        · intro w' hSw; go_simp
        change wpAnyH _ _ _ _ _ _ _ { tmps := #[_, _, _, _, _, _, _, _, _, _, _, _, _, _, _, _, _, _, _, _, _, _, _, _, _, _, _, _, _, _, _, _, _, _, _, _, _, _, _, _, _, _, _, _, _, _, _, _], defers := _ } _
        refine wpAnyH_take (i := 1) (v := .pointer (some ⟨pb, 0, none⟩)) rfl (by kernel_rfl) (by kernel_rfl) (by kernel_rfl) (fun _ _ _ h => h) (Or.inl ⟨by rfl, ?_⟩) H ?_
        · intro w' hSw; go_simp
        change wpAnyH _ _ _ _ _ _ _ { tmps := #[_, _, _, _, _, _, _, _, _, _, _, _, _, _, _, _, _, _, _, _, _, _, _, _, _, _, _, _, _, _, _, _, _, _, _, _, _, _, _, _, _, _, _, _, _, _, _, _], defers := _ } _
        refine wpAnyH_take (i := 2) (v := .int .i64 (p : Int)) rfl (by kernel_rfl) (by kernel_rfl) (by kernel_rfl) (fun _ _ _ h => h) (Or.inl ⟨by rfl, ?_⟩) H ?_
        · intro w' hSw; have t0 := (X2.out.below hSw).c0; have t1 := (X2.out.below hSw).c1; clear hSw; go_simp
        change wpAnyH _ _ _ _ _ _ _ { tmps := #[_, _, _, _, _, _, _, _, _, _, _, _, _, _, _, _, _, _, _, _, _, _, _, _, _, _, _, _, _, _, _, _, _, _, _, _, _, _, _, _, _, _, _, _, _, _, _, _], defers := _ } _
        refine wpAnyH_take (i := 3) (v := .int .i64 (m : Int)) rfl (by kernel_rfl) (by kernel_rfl) (by kernel_rfl) (fun _ _ _ h => h) (Or.inl ⟨by rfl, ?_⟩) H ?_
        · intro w' hSw; go_simp
        change wpAnyH _ _ _ _ _ _ _ { tmps := #[_, _, _, _, _, _, _, _, _, _, _, _, _, _, _, _, _, _, _, _, _, _, _, _, _, _, _, _, _, _, _, _, _, _, _, _, _, _, _, _, _, _, _, _, _, _, _, _], defers := _ } _
        refine wpAnyH_take (i := 4) (v := .agg #[.int .i64 (p : Int), .int .i64 (m : Int)]) rfl (by kernel_rfl) (by kernel_rfl) (by kernel_rfl) (fun _ _ _ h => h) (Or.inl ⟨by rfl, ?_⟩) H ?_
        · intro w' hSw; go_simp
        change wpAnyH _ _ _ _ _ _ _ { tmps := #[_, _, _, _, _, _, _, _, _, _, _, _, _, _, _, _, _, _, _, _, _, _, _, _, _, _, _, _, _, _, _, _, _, _, _, _, _, _, _, _, _, _, _, _, _, _, _, _], defers := _ } _
        refine wpAnyH_take (i := 6) (v := .int .i64 (m : Int)) rfl (by kernel_rfl) (by kernel_rfl) (by kernel_rfl) (fun _ _ _ h => h) (Or.inl ⟨by rfl, ?_⟩) H ?_
        · intro w' hSw; go_simp
        change wpAnyH _ _ _ _ _ _ _ { tmps := #[_, _, _, _, _, _, _, _, _, _, _, _, _, _, _, _, _, _, _, _, _, _, _, _, _, _, _, _, _, _, _, _, _, _, _, _, _, _, _, _, _, _, _, _, _, _, _, _], defers := _ } _
        refine wpAnyH_take (i := 7) (v := .pointer (some ⟨pb, 1, none⟩)) rfl (by kernel_rfl) (by kernel_rfl) (by kernel_rfl) (fun _ _ _ h => h) (Or.inl ⟨by rfl, ?_⟩) H ?_
        · intro w' hSw; go_simp
        change wpAnyH _ _ _ _ _ _ _ { tmps := #[_, _, _, _, _, _, _, _, _, _, _, _, _, _, _, _, _, _, _, _, _, _, _, _, _, _, _, _, _, _, _, _, _, _, _, _, _, _, _, _, _, _, _, _, _, _, _, _], defers := _ } _
        refine wpAnyH_take (i := 8) (v := .int .i64 (q : Int)) rfl (by kernel_rfl) (by kernel_rfl) (by kernel_rfl) (fun _ _ _ h => h) (Or.inl ⟨by rfl, ?_⟩) H ?_
        · intro w' hSw; have t0 := (X2.out.below hSw).c0; have t1 := (X2.out.below hSw).c1; clear hSw; go_simp
        change wpAnyH _ _ _ _ _ _ _ { tmps := #[_, _, _, _, _, _, _, _, _, _, _, _, _, _, _, _, _, _, _, _, _, _, _, _, _, _, _, _, _, _, _, _, _, _, _, _, _, _, _, _, _, _, _, _, _, _, _, _], defers := _ } _
        refine wpAnyH_take (i := 9) (v := .agg #[.int .i64 (m : Int), .int .i64 (q : Int)]) rfl (by kernel_rfl) (by kernel_rfl) (by kernel_rfl) (fun _ _ _ h => h) (Or.inl ⟨by rfl, ?_⟩) H ?_
        · intro w' hSw; go_simp
        change wpAnyH _ _ _ _ _ _ _ { tmps := #[_, _, _, _, _, _, _, _, _, _, _, _, _, _, _, _, _, _, _, _, _, _, _, _, _, _, _, _, _, _, _, _, _, _, _, _, _, _, _, _, _, _, _, _, _, _, _, _], defers := _ } _
        refine wpAnyH_ready (rs := [5, 10]) (by kernel_rfl) (by simp) ?_
        refine (AllReadyH.cons rfl (fun KK hK => ?_) (AllReadyH.cons rfl (fun KK hK => ?_) AllReadyH.nil))
        · skip
          go_simp
          refine (CB.out _).mono ?_
          rintro e y1 ⟨⟨ra, rc, rfl, ho⟩, hb⟩
          have hq : v0.heap.size ≤ y0.heap.size := H.size
          replace H : Below v0.heap.size v0 y1 := H.trans (hb.mono H.size)
          have RO : Hid (EO y1 v0.heap.size 52 2 (.slice ra SL.length rc) SL.length (spF (entS SL))) := ho.mono hq
          clear hb ho hq
          refine hK.out _ _ H (fun _ => ?_)
          clear hK KK
          change wpAnyH _ _ _ _ _ _ _ { tmps := #[_, _, _, _, _, _, _, _, _, _, _, _, _, _, _, _, _, _, _, _, _, _, _, _, _, _, _, _, _, _, _, _, _, _, _, _, _, _, _, _, _, _, _, _, _, _, _, _], defers := _ } _
          refine wpAnyH_ready (rs := [10]) (by kernel_rfl) (by simp) ?_
          refine (AllReadyH.cons rfl (fun KK hK => ?_) AllReadyH.nil)
          go_simp
          have hb : Below y1.heap.size y1 (y1.alloc (.cells #[.int .i64 (m : Int), .int .i64 (q : Int)] 52)) := (Below.refl _ _).alloc (Nat.le_refl _) _
          have BL : Hid (Box2 (y1.alloc (.cells #[.int .i64 (m : Int), .int .i64 (q : Int)] 52)) y1.heap.size 52 (.int .i64 (m : Int)) (.int .i64 (q : Int))) := Box2.madeAt rfl _ _ _
          have Llb : Hid (v0.heap.size ≤ y1.heap.size) := H.size
          replace RO : Hid (EO (y1.alloc (.cells #[.int .i64 (m : Int), .int .i64 (q : Int)] 52)) v0.heap.size 52 2 (.slice ra SL.length rc) SL.length (spF (entS SL))) := RO.out.below hb
          replace H : Below v0.heap.size v0 (y1.alloc (.cells #[.int .i64 (m : Int), .int .i64 (q : Int)] 52)) := H.trans (hb.mono H.size)
          clear hb
          refine hK.out _ _ H (fun _ => ?_)
          clear hK KK
          generalize (y1.alloc (.cells #[.int .i64 (m : Int), .int .i64 (q : Int)] 52)) = y2 at *
          generalize y1.heap.size = lb at *
          change wpAnyH _ _ _ _ _ _ _ { tmps := #[_, _, _, _, _, _, _, _, _, _, _, _, _, _, _, _, _, _, _, _, _, _, _, _, _, _, _, _, _, _, _, _, _, _, _, _, _, _, _, _, _, _, _, _, _, _, _, _], defers := _ } _
          refine wpAnyH_ready (rs := [11]) (by kernel_rfl) (by simp) ?_
          refine (AllReadyH.cons rfl (fun KK hK => ?_) AllReadyH.nil)
          obtain ⟨v9, y3, hr, ho, hg, -⟩ := appSp y2 v0.heap.size (.slice ra SL.length rc) SL.length lb (entS SL) (m, q) H.size (by omega) RO.out (fun j hj => by
            rcases (show j = 0 ∨ j = 1 by omega) with rfl | rfl
            · exact BL.out.c0
            · exact BL.out.c1)
          rw [if_pos (by rfl)]
          refine Lib.wp_append_run _ (.tmp 29) (.tmp 34) 49 49 rfl _ _ rfl rfl _ _ (hr _) ?_
          have hb2 : Below v0.heap.size y2 y3 := (Below.refl _ _).grown hg H.size (fun z hz => (RO.out.ge z hz).1)
          replace H : Below v0.heap.size v0 y3 := H.trans hb2
          obtain ⟨a9, c9, hv9⟩ := ho.form
          subst hv9
          have el : (SL ++ [(m, q)]).length = SL.length + 1 := by simp
          have RT : Hid (RetSp (sideT p q k) w.heap.size (.returned (.slice a9 (SL.length + 1) c9)) y3 ∧ Below w.heap.size w y3) := by
            show _ ∧ _
            rw [SD.out]
            exact ⟨⟨a9, c9, by rw [el], by have := ho.snocSp; rw [el] at this ⊢; exact this.mono W2.out.size⟩, W2.out.trans (H.mono W2.out.size)⟩
          clear hr ho hg hb2 el
          refine hK.out _ _ H (fun _ => ?_)
          clear hK KK
          change wpAnyH _ _ _ _ _ _ _ { tmps := #[_, _, _, _, _, _, _, _, _, _, _, _, _, _, _, _, _, _, _, _, _, _, _, _, _, _, _, _, _, _, _, _, _, _, _, _, _, _, _, _, _, _, _, _, _, _, _, _], defers := _ } _
          refine wpAnyH_take (i := 12) (v := (.slice a9 (SL.length + 1) c9)) rfl (by kernel_rfl) (by kernel_rfl) (by kernel_rfl) (fun _ _ _ h => h) (Or.inl ⟨by rfl, ?_⟩) H ?_
          · intro w' hSw; go_simp
          change wpAnyH _ _ _ _ _ _ _ { tmps := #[_, _, _, _, _, _, _, _, _, _, _, _, _, _, _, _, _, _, _, _, _, _, _, _, _, _, _, _, _, _, _, _, _, _, _, _, _, _, _, _, _, _, _, _, _, _, _, _], defers := _ } _
          refine wpAnyH_done (by kernel_rfl) ?_ _
          refine NoPanic.normal ?_
          clear H RO BL CB X2 W2 Llb SD
          go_wp2
          go_ret
          exact RT.out
        · skip
          go_simp
          have hb : Below y0.heap.size y0 (y0.alloc (.cells #[.int .i64 (m : Int), .int .i64 (q : Int)] 52)) := (Below.refl _ _).alloc (Nat.le_refl _) _
          have BL : Hid (Box2 (y0.alloc (.cells #[.int .i64 (m : Int), .int .i64 (q : Int)] 52)) y0.heap.size 52 (.int .i64 (m : Int)) (.int .i64 (q : Int))) := Box2.madeAt rfl _ _ _
          have Llb : Hid (v0.heap.size ≤ y0.heap.size) := H.size
          replace H : Below v0.heap.size v0 (y0.alloc (.cells #[.int .i64 (m : Int), .int .i64 (q : Int)] 52)) := H.trans (hb.mono H.size)
          clear hb
          refine hK.out _ _ H (fun _ => ?_)
          clear hK KK
          generalize (y0.alloc (.cells #[.int .i64 (m : Int), .int .i64 (q : Int)] 52)) = y1 at *
          generalize y0.heap.size = lb at *
          change wpAnyH _ _ _ _ _ _ _ { tmps := #[_, _, _, _, _, _, _, _, _, _, _, _, _, _, _, _, _, _, _, _, _, _, _, _, _, _, _, _, _, _, _, _, _, _, _, _, _, _, _, _, _, _, _, _, _, _, _, _], defers := _ } _
          refine wpAnyH_ready (rs := [5]) (by kernel_rfl) (by simp) ?_
          refine (AllReadyH.cons rfl (fun KK hK => ?_) AllReadyH.nil)
          go_simp
          refine (CB.out _).mono ?_
          rintro e y2 ⟨⟨ra, rc, rfl, ho⟩, hb⟩
          replace BL : Hid (Box2 y2 lb 52 (.int .i64 (m : Int)) (.int .i64 (q : Int))) := BL.out.below hb
          have hq : v0.heap.size ≤ y1.heap.size := H.size
          replace H : Below v0.heap.size v0 y2 := H.trans (hb.mono H.size)
          have RO : Hid (EO y2 v0.heap.size 52 2 (.slice ra SL.length rc) SL.length (spF (entS SL))) := ho.mono hq
          clear hb ho hq
          refine hK.out _ _ H (fun _ => ?_)
          clear hK KK
          change wpAnyH _ _ _ _ _ _ _ { tmps := #[_, _, _, _, _, _, _, _, _, _, _, _, _, _, _, _, _, _, _, _, _, _, _, _, _, _, _, _, _, _, _, _, _, _, _, _, _, _, _, _, _, _, _, _, _, _, _, _], defers := _ } _
          refine wpAnyH_ready (rs := [11]) (by kernel_rfl) (by simp) ?_
          refine (AllReadyH.cons rfl (fun KK hK => ?_) AllReadyH.nil)
          obtain ⟨v9, y3, hr, ho, hg, -⟩ := appSp y2 v0.heap.size (.slice ra SL.length rc) SL.length lb (entS SL) (m, q) H.size (by omega) RO.out (fun j hj => by
            rcases (show j = 0 ∨ j = 1 by omega) with rfl | rfl
            · exact BL.out.c0
            · exact BL.out.c1)
          rw [if_pos (by rfl)]
          refine Lib.wp_append_run _ (.tmp 29) (.tmp 34) 49 49 rfl _ _ rfl rfl _ _ (hr _) ?_
          have hb2 : Below v0.heap.size y2 y3 := (Below.refl _ _).grown hg H.size (fun z hz => (RO.out.ge z hz).1)
          replace H : Below v0.heap.size v0 y3 := H.trans hb2
          obtain ⟨a9, c9, hv9⟩ := ho.form
          subst hv9
          have el : (SL ++ [(m, q)]).length = SL.length + 1 := by simp
          have RT : Hid (RetSp (sideT p q k) w.heap.size (.returned (.slice a9 (SL.length + 1) c9)) y3 ∧ Below w.heap.size w y3) := by
            show _ ∧ _
            rw [SD.out]
            exact ⟨⟨a9, c9, by rw [el], by have := ho.snocSp; rw [el] at this ⊢; exact this.mono W2.out.size⟩, W2.out.trans (H.mono W2.out.size)⟩
          clear hr ho hg hb2 el
          refine hK.out _ _ H (fun _ => ?_)
          clear hK KK
          change wpAnyH _ _ _ _ _ _ _ { tmps := #[_, _, _, _, _, _, _, _, _, _, _, _, _, _, _, _, _, _, _, _, _, _, _, _, _, _, _, _, _, _, _, _, _, _, _, _, _, _, _, _, _, _, _, _, _, _, _, _], defers := _ } _
          refine wpAnyH_take (i := 12) (v := (.slice a9 (SL.length + 1) c9)) rfl (by kernel_rfl) (by kernel_rfl) (by kernel_rfl) (fun _ _ _ h => h) (Or.inl ⟨by rfl, ?_⟩) H ?_
          · intro w' hSw; go_simp
          change wpAnyH _ _ _ _ _ _ _ { tmps := #[_, _, _, _, _, _, _, _, _, _, _, _, _, _, _, _, _, _, _, _, _, _, _, _, _, _, _, _, _, _, _, _, _, _, _, _, _, _, _, _, _, _, _, _, _, _, _, _], defers := _ } _
          refine wpAnyH_done (by kernel_rfl) ?_ _
          refine NoPanic.normal ?_
          clear H RO BL CB X2 W2 Llb SD
          go_wp2
          go_ret
          exact RT.out
      · obtain ⟨sd, sz⟩ := sh.out hk
        have CB : Hid (∀ w : World, Calls Tryd.prog 26 #[.int .i64 (k : Int), .agg #[.int .i64 (m : Int), .int .i64 (q : Int)]] w fun e w' => RetSp (sideT m q k) w.heap.size e w' ∧ Below w.heap.size w w') := hi.out hk
        have SD : Hid _ := sd
        clear sd
        generalize sideT m q k = SL at *
        have hki : ¬ (k : Int) < (m : Int) := by omega
        clear lo hi sl sh kd RR hk
        go_upto_region 6 with fail
        generalize y0 = v0 at *
        have H : Below v0.heap.size v0 v0.drew := (Below.refl _ _).drew
        refine wp_region_noPanic ?_
        refine wp_region_held_drew (S := fun w' => Below v0.heap.size v0 w') (by kernel_rfl) H (fun _ => ?_)
        generalize v0.drew = y0 at *
        refine wpAnyH_take (i := 0) (v := .int .i64 (k : Int)) rfl (by kernel_rfl) (by kernel_rfl) (by kernel_rfl) (fun _ _ _ h => h) (Or.inl ⟨by rfl, ?_⟩) H ?_
        · intro w' hSw; go_simp
        change wpAnyH _ _ _ _ _ _ _ { tmps := #[_, _, _, _, _, _, _, _, _, _, _, _, _, _, _, _, _, _, _, _, _, _, _, _, _, _, _, _, _, _, _, _, _, _, _, _, _, _, _, _, _, _, _, _, _, _, _, _], defers := _ } _
        refine wpAnyH_take (i := 1) (v := .int .i64 (m : Int)) rfl (by kernel_rfl) (by kernel_rfl) (by kernel_rfl) (fun _ _ _ h => h) (Or.inl ⟨by rfl, ?_⟩) H ?_
        · intro w' hSw; go_simp
        change wpAnyH _ _ _ _ _ _ _ { tmps := #[_, _, _, _, _, _, _, _, _, _, _, _, _, _, _, _, _, _, _, _, _, _, _, _, _, _, _, _, _, _, _, _, _, _, _, _, _, _, _, _, _, _, _, _, _, _, _, _], defers := _ } _
        refine wpAnyH_take (i := 2) (v := .pointer (some ⟨pb, 1, none⟩)) rfl (by kernel_rfl) (by kernel_rfl) (by kernel_rfl) (fun _ _ _ h => h) (Or.inl ⟨by rfl, ?_⟩) H ?_
        · intro w' hSw; go_simp
        change wpAnyH _ _ _ _ _ _ _ { tmps := #[_, _, _, _, _, _, _, _, _, _, _, _, _, _, _, _, _, _, _, _, _, _, _, _, _, _, _, _, _, _, _, _, _, _, _, _, _, _, _, _, _, _, _, _, _, _, _, _], defers := _ } _
        refine wpAnyH_take (i := 3) (v := .int .i64 (q : Int)) rfl (by kernel_rfl) (by kernel_rfl) (by kernel_rfl) (fun _ _ _ h => h) (Or.inl ⟨by rfl, ?_⟩) H ?_
        · intro w' hSw; have t0 := (X2.out.below hSw).c0; have t1 := (X2.out.below hSw).c1; clear hSw; go_simp
        change wpAnyH _ _ _ _ _ _ _ { tmps := #[_, _, _, _, _, _, _, _, _, _, _, _, _, _, _, _, _, _, _, _, _, _, _, _, _, _, _, _, _, _, _, _, _, _, _, _, _, _, _, _, _, _, _, _, _, _, _, _], defers := _ } _
        refine wpAnyH_take (i := 4) (v := .agg #[.int .i64 (m : Int), .int .i64 (q : Int)]) rfl (by kernel_rfl) (by kernel_rfl) (by kernel_rfl) (fun _ _ _ h => h) (Or.inl ⟨by rfl, ?_⟩) H ?_
        · intro w' hSw; go_simp
        change wpAnyH _ _ _ _ _ _ _ { tmps := #[_, _, _, _, _, _, _, _, _, _, _, _, _, _, _, _, _, _, _, _, _, _, _, _, _, _, _, _, _, _, _, _, _, _, _, _, _, _, _, _, _, _, _, _, _, _, _, _], defers := _ } _
        refine wpAnyH_take (i := 6) (v := .pointer (some ⟨pb, 0, none⟩)) rfl (by kernel_rfl) (by kernel_rfl) (by kernel_rfl) (fun _ _ _ h => h) (Or.inl ⟨by rfl, ?_⟩) H ?_
        · intro w' hSw; go_simp
        change wpAnyH _ _ _ _ _ _ _ { tmps := #[_, _, _, _, _, _, _, _, _, _, _, _, _, _, _, _, _, _, _, _, _, _, _, _, _, _, _, _, _, _, _, _, _, _, _, _, _, _, _, _, _, _, _, _, _, _, _, _], defers := _ } _
        refine wpAnyH_take (i := 7) (v := .int .i64 (p : Int)) rfl (by kernel_rfl) (by kernel_rfl) (by kernel_rfl) (fun _ _ _ h => h) (Or.inl ⟨by rfl, ?_⟩) H ?_
        · intro w' hSw; have t0 := (X2.out.below hSw).c0; have t1 := (X2.out.below hSw).c1; clear hSw; go_simp
        change wpAnyH _ _ _ _ _ _ _ { tmps := #[_, _, _, _, _, _, _, _, _, _, _, _, _, _, _, _, _, _, _, _, _, _, _, _, _, _, _, _, _, _, _, _, _, _, _, _, _, _, _, _, _, _, _, _, _, _, _, _], defers := _ } _
        refine wpAnyH_take (i := 8) (v := .int .i64 (m : Int)) rfl (by kernel_rfl) (by kernel_rfl) (by kernel_rfl) (fun _ _ _ h => h) (Or.inl ⟨by rfl, ?_⟩) H ?_
        · intro w' hSw; go_simp
        change wpAnyH _ _ _ _ _ _ _ { tmps := #[_, _, _, _, _, _, _, _, _, _, _, _, _, _, _, _, _, _, _, _, _, _, _, _, _, _, _, _, _, _, _, _, _, _, _, _, _, _, _, _, _, _, _, _, _, _, _, _], defers := _ } _
        refine wpAnyH_take (i := 9) (v := .agg #[.int .i64 (p : Int), .int .i64 (m : Int)]) rfl (by kernel_rfl) (by kernel_rfl) (by kernel_rfl) (fun _ _ _ h => h) (Or.inl ⟨by rfl, ?_⟩) H ?_
        · intro w' hSw; go_simp
        change wpAnyH _ _ _ _ _ _ _ { tmps := #[_, _, _, _, _, _, _, _, _, _, _, _, _, _, _, _, _, _, _, _, _, _, _, _, _, _, _, _, _, _, _, _, _, _, _, _, _, _, _, _, _, _, _, _, _, _, _, _], defers := _ } _
        refine wpAnyH_ready (rs := [5, 10]) (by kernel_rfl) (by simp) ?_
        refine (AllReadyH.cons rfl (fun KK hK => ?_) (AllReadyH.cons rfl (fun KK hK => ?_) AllReadyH.nil))
        · skip
          go_simp
          refine (CB.out _).mono ?_
          rintro e y1 ⟨⟨ra, rc, rfl, ho⟩, hb⟩
          have hq : v0.heap.size ≤ y0.heap.size := H.size
          replace H : Below v0.heap.size v0 y1 := H.trans (hb.mono H.size)
          have RO : Hid (EO y1 v0.heap.size 52 2 (.slice ra SL.length rc) SL.length (spF (entS SL))) := ho.mono hq
          clear hb ho hq
          refine hK.out _ _ H (fun _ => ?_)
          clear hK KK
          change wpAnyH _ _ _ _ _ _ _ { tmps := #[_, _, _, _, _, _, _, _, _, _, _, _, _, _, _, _, _, _, _, _, _, _, _, _, _, _, _, _, _, _, _, _, _, _, _, _, _, _, _, _, _, _, _, _, _, _, _, _], defers := _ } _
          refine wpAnyH_ready (rs := [10]) (by kernel_rfl) (by simp) ?_
          refine (AllReadyH.cons rfl (fun KK hK => ?_) AllReadyH.nil)
          go_simp
          have hb : Below y1.heap.size y1 (y1.alloc (.cells #[.int .i64 (p : Int), .int .i64 (m : Int)] 52)) := (Below.refl _ _).alloc (Nat.le_refl _) _
          have BL : Hid (Box2 (y1.alloc (.cells #[.int .i64 (p : Int), .int .i64 (m : Int)] 52)) y1.heap.size 52 (.int .i64 (p : Int)) (.int .i64 (m : Int))) := Box2.madeAt rfl _ _ _
          have Llb : Hid (v0.heap.size ≤ y1.heap.size) := H.size
          replace RO : Hid (EO (y1.alloc (.cells #[.int .i64 (p : Int), .int .i64 (m : Int)] 52)) v0.heap.size 52 2 (.slice ra SL.length rc) SL.length (spF (entS SL))) := RO.out.below hb
          replace H : Below v0.heap.size v0 (y1.alloc (.cells #[.int .i64 (p : Int), .int .i64 (m : Int)] 52)) := H.trans (hb.mono H.size)
          clear hb
          refine hK.out _ _ H (fun _ => ?_)
          clear hK KK
          generalize (y1.alloc (.cells #[.int .i64 (p : Int), .int .i64 (m : Int)] 52)) = y2 at *
          generalize y1.heap.size = lb at *
          change wpAnyH _ _ _ _ _ _ _ { tmps := #[_, _, _, _, _, _, _, _, _, _, _, _, _, _, _, _, _, _, _, _, _, _, _, _, _, _, _, _, _, _, _, _, _, _, _, _, _, _, _, _, _, _, _, _, _, _, _, _], defers := _ } _
          refine wpAnyH_ready (rs := [11]) (by kernel_rfl) (by simp) ?_
          refine (AllReadyH.cons rfl (fun KK hK => ?_) AllReadyH.nil)
          obtain ⟨v9, y3, hr, ho, hg, -⟩ := appSp y2 v0.heap.size (.slice ra SL.length rc) SL.length lb (entS SL) (p, m) H.size (by omega) RO.out (fun j hj => by
            rcases (show j = 0 ∨ j = 1 by omega) with rfl | rfl
            · exact BL.out.c0
            · exact BL.out.c1)
          rw [if_pos (by rfl)]
          refine Lib.wp_append_run _ (.tmp 41) (.tmp 46) 49 49 rfl _ _ rfl rfl _ _ (hr _) ?_
          have hb2 : Below v0.heap.size y2 y3 := (Below.refl _ _).grown hg H.size (fun z hz => (RO.out.ge z hz).1)
          replace H : Below v0.heap.size v0 y3 := H.trans hb2
          obtain ⟨a9, c9, hv9⟩ := ho.form
          subst hv9
          have el : (SL ++ [(p, m)]).length = SL.length + 1 := by simp
          have RT : Hid (RetSp (sideT p q k) w.heap.size (.returned (.slice a9 (SL.length + 1) c9)) y3 ∧ Below w.heap.size w y3) := by
            show _ ∧ _
            rw [SD.out]
            exact ⟨⟨a9, c9, by rw [el], by have := ho.snocSp; rw [el] at this ⊢; exact this.mono W2.out.size⟩, W2.out.trans (H.mono W2.out.size)⟩
          clear hr ho hg hb2 el
          refine hK.out _ _ H (fun _ => ?_)
          clear hK KK
          change wpAnyH _ _ _ _ _ _ _ { tmps := #[_, _, _, _, _, _, _, _, _, _, _, _, _, _, _, _, _, _, _, _, _, _, _, _, _, _, _, _, _, _, _, _, _, _, _, _, _, _, _, _, _, _, _, _, _, _, _, _], defers := _ } _
          refine wpAnyH_take (i := 12) (v := (.slice a9 (SL.length + 1) c9)) rfl (by kernel_rfl) (by kernel_rfl) (by kernel_rfl) (fun _ _ _ h => h) (Or.inl ⟨by rfl, ?_⟩) H ?_
          · intro w' hSw; go_simp
          change wpAnyH _ _ _ _ _ _ _ { tmps := #[_, _, _, _, _, _, _, _, _, _, _, _, _, _, _, _, _, _, _, _, _, _, _, _, _, _, _, _, _, _, _, _, _, _, _, _, _, _, _, _, _, _, _, _, _, _, _, _], defers := _ } _
          refine wpAnyH_done (by kernel_rfl) ?_ _
          refine NoPanic.normal ?_
          clear H RO BL CB X2 W2 Llb SD
          go_wp2
          go_ret
          exact RT.out
        · skip
          go_simp
          have hb : Below y0.heap.size y0 (y0.alloc (.cells #[.int .i64 (p : Int), .int .i64 (m : Int)] 52)) := (Below.refl _ _).alloc (Nat.le_refl _) _
          have BL : Hid (Box2 (y0.alloc (.cells #[.int .i64 (p : Int), .int .i64 (m : Int)] 52)) y0.heap.size 52 (.int .i64 (p : Int)) (.int .i64 (m : Int))) := Box2.madeAt rfl _ _ _
          have Llb : Hid (v0.heap.size ≤ y0.heap.size) := H.size
          replace H : Below v0.heap.size v0 (y0.alloc (.cells #[.int .i64 (p : Int), .int .i64 (m : Int)] 52)) := H.trans (hb.mono H.size)
          clear hb
          refine hK.out _ _ H (fun _ => ?_)
          clear hK KK
          generalize (y0.alloc (.cells #[.int .i64 (p : Int), .int .i64 (m : Int)] 52)) = y1 at *
          generalize y0.heap.size = lb at *
          change wpAnyH _ _ _ _ _ _ _ { tmps := #[_, _, _, _, _, _, _, _, _, _, _, _, _, _, _, _, _, _, _, _, _, _, _, _, _, _, _, _, _, _, _, _, _, _, _, _, _, _, _, _, _, _, _, _, _, _, _, _], defers := _ } _
          refine wpAnyH_ready (rs := [5]) (by kernel_rfl) (by simp) ?_
          refine (AllReadyH.cons rfl (fun KK hK => ?_) AllReadyH.nil)
          go_simp
          refine (CB.out _).mono ?_
          rintro e y2 ⟨⟨ra, rc, rfl, ho⟩, hb⟩
          replace BL : Hid (Box2 y2 lb 52 (.int .i64 (p : Int)) (.int .i64 (m : Int))) := BL.out.below hb
          have hq : v0.heap.size ≤ y1.heap.size := H.size
          replace H : Below v0.heap.size v0 y2 := H.trans (hb.mono H.size)
          have RO : Hid (EO y2 v0.heap.size 52 2 (.slice ra SL.length rc) SL.length (spF (entS SL))) := ho.mono hq
          clear hb ho hq
          refine hK.out _ _ H (fun _ => ?_)
          clear hK KK
          change wpAnyH _ _ _ _ _ _ _ { tmps := #[_, _, _, _, _, _, _, _, _, _, _, _, _, _, _, _, _, _, _, _, _, _, _, _, _, _, _, _, _, _, _, _, _, _, _, _, _, _, _, _, _, _, _, _, _, _, _, _], defers := _ } _
          refine wpAnyH_ready (rs := [11]) (by kernel_rfl) (by simp) ?_
          refine (AllReadyH.cons rfl (fun KK hK => ?_) AllReadyH.nil)
          obtain ⟨v9, y3, hr, ho, hg, -⟩ := appSp y2 v0.heap.size (.slice ra SL.length rc) SL.length lb (entS SL) (p, m) H.size (by omega) RO.out (fun j hj => by
            rcases (show j = 0 ∨ j = 1 by omega) with rfl | rfl
            · exact BL.out.c0
            · exact BL.out.c1)
          rw [if_pos (by rfl)]
          refine Lib.wp_append_run _ (.tmp 41) (.tmp 46) 49 49 rfl _ _ rfl rfl _ _ (hr _) ?_
          have hb2 : Below v0.heap.size y2 y3 := (Below.refl _ _).grown hg H.size (fun z hz => (RO.out.ge z hz).1)
          replace H : Below v0.heap.size v0 y3 := H.trans hb2
          obtain ⟨a9, c9, hv9⟩ := ho.form
          subst hv9
          have el : (SL ++ [(p, m)]).length = SL.length + 1 := by simp
          have RT : Hid (RetSp (sideT p q k) w.heap.size (.returned (.slice a9 (SL.length + 1) c9)) y3 ∧ Below w.heap.size w y3) := by
            show _ ∧ _
            rw [SD.out]
            exact ⟨⟨a9, c9, by rw [el], by have := ho.snocSp; rw [el] at this ⊢; exact this.mono W2.out.size⟩, W2.out.trans (H.mono W2.out.size)⟩
          clear hr ho hg hb2 el
          refine hK.out _ _ H (fun _ => ?_)
          clear hK KK
          change wpAnyH _ _ _ _ _ _ _ { tmps := #[_, _, _, _, _, _, _, _, _, _, _, _, _, _, _, _, _, _, _, _, _, _, _, _, _, _, _, _, _, _, _, _, _, _, _, _, _, _, _, _, _, _, _, _, _, _, _, _], defers := _ } _
          refine wpAnyH_take (i := 12) (v := (.slice a9 (SL.length + 1) c9)) rfl (by kernel_rfl) (by kernel_rfl) (by kernel_rfl) (fun _ _ _ h => h) (Or.inl ⟨by rfl, ?_⟩) H ?_
          · intro w' hSw; go_simp
          change wpAnyH _ _ _ _ _ _ _ { tmps := #[_, _, _, _, _, _, _, _, _, _, _, _, _, _, _, _, _, _, _, _, _, _, _, _, _, _, _, _, _, _, _, _, _, _, _, _, _, _, _, _, _, _, _, _, _, _, _, _], defers := _ } _
          refine wpAnyH_done (by kernel_rfl) ?_ _
          refine NoPanic.normal ?_
          clear H RO BL CB X2 W2 Llb SD
          go_wp2
          go_ret
          exact RT.out
end Go.Proofs.YtpljdlgjeeikkaaDoor
