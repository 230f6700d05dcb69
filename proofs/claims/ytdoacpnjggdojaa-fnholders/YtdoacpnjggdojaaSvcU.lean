/-
  FreshReads of the program (written by tools/mksvu.py).
-/
import Derived.Test.YtdoacpnjggdojaaSvcW
namespace Go.Proofs.Ytdoacpnjggdojaa
open Go.ChangeShapes Go.WideShapes Go.ChangeAt Go.RowKit
set_option linter.unusedVariables false
/-- The write k ended before b. -/
def Ack (s : Sv) (b : Int) (k : Nat) : Prop := ¬ (s.W k).en = -1 ∧ (s.W k).en < b
/-- The highest counter of the first q writes that ended before b. -/
def AckIs (s : Sv) (b : Int) (q : Nat) (x : Int) : Prop := (x = 0 ∨ ∃ k, k < q ∧ Ack s b k ∧ (s.W k).mc = x) ∧ ∀ k, k < q → Ack s b k → (s.W k).mc ≤ x
theorem AckIs.no {s : Sv} {b : Int} {q : Nat} {x : Int} (h : AckIs s b q x) (n : ¬ Ack s b q) : AckIs s b (q + 1) x :=
  ⟨h.1.imp id (fun ⟨k, y1, y2, y3⟩ => ⟨k, by omega, y2, y3⟩), fun k hk y => by
    rcases Nat.lt_or_ge k q with g | g
    · exact h.2 k g y
    · obtain rfl : k = q := by omega
      exact absurd y n⟩
theorem AckIs.up {s : Sv} {b : Int} {q : Nat} {x : Int} (h : AckIs s b q x) (n : Ack s b q) (hx : x ≤ (s.W q).mc) : AckIs s b (q + 1) (s.W q).mc :=
  ⟨.inr ⟨q, by omega, n, rfl⟩, fun k hk y => by
    rcases Nat.lt_or_ge k q with g | g
    · have := h.2 k g y; omega
    · obtain rfl : k = q := by omega
      exact Int.le_refl _⟩
theorem AckIs.same {s : Sv} {b : Int} {q : Nat} {x : Int} (h : AckIs s b q x) (hx : (s.W q).mc ≤ x) : AckIs s b (q + 1) x :=
  ⟨h.1.imp id (fun ⟨k, y1, y2, y3⟩ => ⟨k, by omega, y2, y3⟩), fun k hk y => by
    rcases Nat.lt_or_ge k q with g | g
    · exact h.2 k g y
    · obtain rfl : k = q := by omega
      exact hx⟩
/-- The read i missed a write. -/
def Stale (s : Sv) (i : Nat) : Prop := ¬ (s.Q i).en = -1 ∧ ∃ k, k < s.m ∧ Ack s (s.Q i).bg k ∧ (s.Q i).bc < (s.W k).mc
theorem stale_iff {s : Sv} (h : s.Ok) {i : Nat} (hi : i < s.l) {x : Int} (hx : AckIs s (s.Q i).bg s.m x) : Stale s i ↔ ¬ (s.Q i).en = -1 ∧ (s.Q i).bc < x := by
  have h0 : 0 ≤ (s.Q i).bc := (h.2.2.2 i hi).1.1.1
  constructor
  · rintro ⟨h1, k, hk, ha, hl⟩
    exact ⟨h1, by have := hx.2 k hk ha; omega⟩
  · rintro ⟨h1, h2⟩
    rcases hx.1 with y | ⟨k, hk, ha, hl⟩
    · omega
    · exact ⟨h1, k, hk, ha, by omega⟩
set_option maxRecDepth 100000 in
set_option maxHeartbeats 4000000 in
theorem ack_v (s : Sv) (p : Sa) (b : Int) (hx : s.max 1048576) (w : World) (h : SvV w s p) :
    Calls Try.prog 42 #[.agg #[.slice p.a s.n p.ca, .int .i64 s.t, .slice p.b s.m p.cb, .slice p.d s.l p.cd], .int .i64 b] w fun e w' => (∃ x : Int, e = .returned (.int .i64 x) ∧ AckIs s b s.m x) ∧ Below w.heap.size w w' := by
  obtain ⟨pa, pb, pd, PA, PB, PD, PX, PY, PZ, ca, cb, cd⟩ := p
  dsimp only
  have BB : Hid (Below w.heap.size w (w.alloc (.cells #[.slice pa s.n ca, .int .i64 s.t, .slice pb s.m cb, .slice pd s.l cd] 30))) := (Below.refl w.heap.size w).alloc (Nat.le_refl _) _
  have HV : Hid (SvV (w.alloc (.cells #[.slice pa s.n ca, .int .i64 s.t, .slice pb s.m cb, .slice pd s.l cd] 30)) s ⟨pa, pb, pd, PA, PB, PD, PX, PY, PZ, ca, cb, cd⟩) := h.below BB.out
  have hsm : s.m ≤ 1048576 := hx.2.1.1
  clear h hx
  go_enter Try.func42, Try.ntmps42
  go_wp2
  generalize (w.alloc (.cells #[.slice pa s.n ca, .int .i64 s.t, .slice pb s.m cb, .slice pd s.l cd] 30)) = v0 at *
  go_loopw [5, 11] (fun c i wr => ∃ (q : Nat) (x : Int), q ≤ s.m ∧ c = .int .i64 x ∧ i = .int .i64 q ∧ AckIs s b q x ∧ Below v0.heap.size v0 wr) (fun c i _ => s.m - (intOf i).toNat)
  case atStart => exact ⟨0, 0, by omega, rfl, rfl, ⟨.inl rfl, fun k hk => absurd hk (by omega)⟩, Below.refl _ _⟩
  case round =>
    obtain ⟨q, x, hq, rfl, rfl, hok, hb⟩ := hrel
    have HK : Hid (AckIs s b q x) := hok
    have HB : Hid (Below v0.heap.size v0 wr) := hb
    replace BB : Hid (Below w.heap.size w wr) := BB.out.trans (hb.mono BB.out.size)
    replace HV : Hid (SvV wr s ⟨pa, pb, pd, PA, PB, PD, PX, PY, PZ, ca, cb, cd⟩) := HV.out.below hb
    clear hok hb
    by_cases hlt : q < s.m
    · have hlt' : (q : Int) < (s.m : Int) := by omega
      obtain ⟨bb, off, rfl, hc⟩ := HV.out.2.1.at hlt
      clear HV
      have N1 : Hid (¬ Ack s b q → AckIs s b (q + 1) x) := HK.out.no
      have N2 : Hid (Ack s b q → x ≤ (s.W q).mc → AckIs s b (q + 1) (s.W q).mc) := HK.out.up
      have N3 : Hid ((s.W q).mc ≤ x → AckIs s b (q + 1) x) := HK.out.same
      have HA : Hid (Ack s b q ↔ ¬ (s.W q).en = -1 ∧ (s.W q).en < b) := Iff.rfl
      clear HK
      generalize Ack s b q = AQ at *
      generalize hR : s.W q = r at *
      obtain ⟨mc, mt, ne, E, bg, en⟩ := r
      generalize hA : PB q = A at *
      generalize hX : PY q = X at *
      dsimp only at N2 N3 HA
      have c_0 : wr.cell? ⟨bb, off + q * 5, none⟩ = some (.int .i64 mc) := by have := hc 0 (by omega); simpa [woF, woV, hA, hX, hR] using this
      have c_1 : wr.cell? ⟨bb, off + q * 5 + 1, none⟩ = some (.int .i64 mt) := by have := hc 1 (by omega); simpa [woF, woV, hA, hX, hR] using this
      have c_2 : wr.cell? ⟨bb, off + q * 5 + 2, none⟩ = some (.slice A ne X) := by have := hc 2 (by omega); simpa [woF, woV, hA, hX, hR] using this
      have c_3 : wr.cell? ⟨bb, off + q * 5 + 3, none⟩ = some (.int .i64 bg) := by have := hc 3 (by omega); simpa [woF, woV, hA, hX, hR] using this
      have c_4 : wr.cell? ⟨bb, off + q * 5 + 4, none⟩ = some (.int .i64 en) := by have := hc 4 (by omega); simpa [woF, woV, hA, hX, hR] using this
      clear hc hA hX hR
      have HB2 : Hid (Below v0.heap.size v0 (wr.alloc (.cells #[.int .i64 mc, .int .i64 mt, .slice A ne X, .int .i64 bg, .int .i64 en] 43))) := HB.out.trans (((Below.refl _ _).alloc (Nat.le_refl _) _).mono HB.out.size)
      clear HB
      by_cases p2 : en = -1
      · subst p2
        have N : Hid (AckIs s b (q + 1) x) := N1.out (fun y => (HA.out.mp y).1 rfl)
        clear N1 N2 N3 HA
        go_wp2
        go_roundw
        case rel => exact ⟨q + 1, x, by omega, rfl, by go_num, N.out, HB2.out⟩
        case measure => simp [intOf]; omega
      · by_cases p3 : en < b
        · have AY : Hid AQ := HA.out.mpr ⟨p2, p3⟩
          by_cases p4 : x ≤ mc
          · have N : Hid (AckIs s b (q + 1) mc) := N2.out AY.out p4
            clear N1 N2 N3 HA AY
            go_wp2
            go_roundw
            case rel => exact ⟨q + 1, mc, by omega, by first | rfl | (congr 1; omega), by go_num, N.out, HB2.out⟩
            case measure => simp [intOf]; omega
          · have N : Hid (AckIs s b (q + 1) x) := N3.out (by omega)
            clear N1 N2 N3 HA AY
            go_wp2
            go_roundw
            case rel => exact ⟨q + 1, x, by omega, by first | rfl | (congr 1; omega), by go_num, N.out, HB2.out⟩
            case measure => simp [intOf]; omega
        · have N : Hid (AckIs s b (q + 1) x) := N1.out (fun y => p3 (HA.out.mp y).2)
          clear N1 N2 N3 HA
          go_wp2
          go_roundw
          case rel => exact ⟨q + 1, x, by omega, rfl, by go_num, N.out, HB2.out⟩
          case measure => simp [intOf]; omega
    · have hlt' : ¬ (q : Int) < (s.m : Int) := by omega
      obtain rfl : s.m = q := by omega
      clear HV HB
      go_wp2
      go_ret
      exact ⟨⟨x, rfl, HK.out⟩, BB.out⟩
set_option maxRecDepth 100000 in
set_option maxHeartbeats 4000000 in
theorem clo3_v (s : Sv) (p : Sa) (hx : s.max 1048576) (ok : s.Ok) (i : Nat) (hi : i < s.l) (A : Option Addr) (X : Nat) (sb : Nat) (w : World) (hs : BxF w sb 30 4 (fun i => if i = 0 then .slice p.a s.n p.ca else if i = 1 then .int .i64 s.t else if i = 2 then .slice p.b s.m p.cb else .slice p.d s.l p.cd)) (h : SvV w s p) :
    Calls Try.prog 41 #[.agg #[.slice A (s.Q i).ne X, .int .i64 (s.Q i).bc, .int .i64 (s.Q i).bt, .int .i64 (s.Q i).bg, .int .i64 (s.Q i).en], .pointer (some ⟨sb, 0, none⟩)] w fun e w' => e = .returned (.bool (sB (Stale s i))) ∧ Below w.heap.size w w' := by
  obtain ⟨z, hz⟩ : ∃ z, z = sB (Stale s i) := ⟨_, rfl⟩
  rw [← hz]
  have ST : Hid (∀ x : Int, AckIs s (s.Q i).bg s.m x → z = sB (¬ (s.Q i).en = -1 ∧ (s.Q i).bc < x)) := fun x y => by
    rw [hz]
    by_cases g : Stale s i
    · rw [sB_yes g, sB_yes ((stale_iff ok hi y).mp g)]
    · rw [sB_no g, sB_no (fun q => g ((stale_iff ok hi y).mpr q))]
  have NS : Hid ((s.Q i).en = -1 → z = false) := fun y => hz.trans (sB_no (fun g => g.1 y))
  have AV : Hid (∀ w : World, SvV w s p → Calls Try.prog 42 #[.agg #[.slice p.a s.n p.ca, .int .i64 s.t, .slice p.b s.m p.cb, .slice p.d s.l p.cd], .int .i64 (s.Q i).bg] w fun e w' => (∃ x : Int, e = .returned (.int .i64 x) ∧ AckIs s (s.Q i).bg s.m x) ∧ Below w.heap.size w w') := fun w h => ack_v s p _ hx w h
  clear hz ok hi hx
  generalize s.Q i = r at *
  have BB : Hid (Below w.heap.size w (w.alloc (.cells #[.slice A r.ne X, .int .i64 r.bc, .int .i64 r.bt, .int .i64 r.bg, .int .i64 r.en] 41))) := (Below.refl w.heap.size w).alloc (Nat.le_refl _) _
  have R1 : Hid (BxF (w.alloc (.cells #[.slice A r.ne X, .int .i64 r.bc, .int .i64 r.bt, .int .i64 r.bg, .int .i64 r.en] 41)) w.heap.size 41 5 (roV r (.slice A r.ne X))) := BxF.ro _ _ _
  have S1 : Hid (BxF (w.alloc (.cells #[.slice A r.ne X, .int .i64 r.bc, .int .i64 r.bt, .int .i64 r.bg, .int .i64 r.en] 41)) sb 30 4 (fun i => if i = 0 then .slice p.a s.n p.ca else if i = 1 then .int .i64 s.t else if i = 2 then .slice p.b s.m p.cb else .slice p.d s.l p.cd)) := hs.below BB.out
  have HV : Hid (SvV (w.alloc (.cells #[.slice A r.ne X, .int .i64 r.bc, .int .i64 r.bt, .int .i64 r.bg, .int .i64 r.en] 41)) s p) := h.below BB.out
  clear hs h
  go_enter Try.func41, Try.ntmps41
  go_wp2_with fail
  generalize (w.alloc (.cells #[.slice A r.ne X, .int .i64 r.bc, .int .i64 r.bt, .int .i64 r.bg, .int .i64 r.en] 41)) = v0 at *
  obtain ⟨rb, hrb⟩ : ∃ x, x = w.heap.size := ⟨_, rfl⟩
  rw [← hrb] at R1 ⊢
  clear hrb
  by_cases pe : r.en = -1
  · replace NS : Hid (z = false) := NS.out pe
    have PE : Hid (r.en = -1) := pe
    clear pe ST AV
    have H : Below v0.heap.size v0 v0.drew := (Below.refl _ _).drew
    refine wp_region_noPanic ?_
    refine wp_region_held_drew (S := fun w' => Below v0.heap.size v0 w') (by kernel_rfl) H (fun _ => ?_)
    generalize v0.drew = x0 at *
    refine wpAnyH_take (i := 0) (v := .pointer (some ⟨rb, 4, none⟩)) rfl (by kernel_rfl) (by kernel_rfl) (by kernel_rfl) (fun _ _ _ h => h) (Or.inl ⟨by rfl, ?_⟩) H ?_
    · intro w' hSw; clear hSw; go_simp
    change wpAnyH _ _ _ _ _ _ _ { tmps := #[_, _, _, _, _, _, _, _, _, _, _, _, _, _, _, _, _], defers := _ } _
    refine wpAnyH_take (i := 1) (v := .int .i64 r.en) rfl (by kernel_rfl) (by kernel_rfl) (by kernel_rfl) (fun _ _ _ h => h) (Or.inl ⟨by rfl, ?_⟩) H ?_
    · intro w' hSw; have g : w'.cell? ⟨rb, 4, none⟩ = some (.int .i64 r.en) := (R1.out.below hSw).cell 4 (by omega); clear hSw; go_simp
    change wpAnyH _ _ _ _ _ _ _ { tmps := #[_, _, _, _, _, _, _, _, _, _, _, _, _, _, _, _, _], defers := _ } _
    refine wpAnyH_take (i := 2) (v := .bool false) rfl (by kernel_rfl) (by kernel_rfl) (by kernel_rfl) (fun _ _ _ h => h) (Or.inl ⟨by rfl, ?_⟩) H ?_
    · intro w' hSw; clear hSw; go_simp; exact PE.out
    change wpAnyH _ _ _ _ _ _ _ { tmps := #[_, _, _, _, _, _, _, _, _, _, _, _, _, _, _, _, _], defers := _ } _
    refine wpAnyH_take (i := 3) (v := .bool false) rfl (by kernel_rfl) (by kernel_rfl) (by kernel_rfl) (fun _ _ _ h => h) (Or.inl ⟨by rfl, ?_⟩) H ?_
    · intro w' hSw; clear hSw; go_simp
    change wpAnyH _ _ _ _ _ _ _ { tmps := #[_, _, _, _, _, _, _, _, _, _, _, _, _, _, _, _, _], defers := _ } _
    refine wpAnyH_take (i := 4) (v := undef) rfl (by kernel_rfl) (by kernel_rfl) (by kernel_rfl) (fun _ _ _ h => h) (Or.inr ⟨by rfl, rfl⟩) H ?_
    change wpAnyH _ _ _ _ _ _ _ { tmps := #[_, _, _, _, _, _, _, _, _, _, _, _, _, _, _, _, _], defers := _ } _
    refine wpAnyH_take (i := 5) (v := undef) rfl (by kernel_rfl) (by kernel_rfl) (by kernel_rfl) (fun _ _ _ h => h) (Or.inr ⟨by rfl, rfl⟩) H ?_
    change wpAnyH _ _ _ _ _ _ _ { tmps := #[_, _, _, _, _, _, _, _, _, _, _, _, _, _, _, _, _], defers := _ } _
    refine wpAnyH_take (i := 6) (v := undef) rfl (by kernel_rfl) (by kernel_rfl) (by kernel_rfl) (fun _ _ _ h => h) (Or.inr ⟨by rfl, rfl⟩) H ?_
    change wpAnyH _ _ _ _ _ _ _ { tmps := #[_, _, _, _, _, _, _, _, _, _, _, _, _, _, _, _, _], defers := _ } _
    refine wpAnyH_take (i := 7) (v := undef) rfl (by kernel_rfl) (by kernel_rfl) (by kernel_rfl) (fun _ _ _ h => h) (Or.inr ⟨by rfl, rfl⟩) H ?_
    change wpAnyH _ _ _ _ _ _ _ { tmps := #[_, _, _, _, _, _, _, _, _, _, _, _, _, _, _, _, _], defers := _ } _
    refine wpAnyH_take (i := 8) (v := undef) rfl (by kernel_rfl) (by kernel_rfl) (by kernel_rfl) (fun _ _ _ h => h) (Or.inr ⟨by rfl, rfl⟩) H ?_
    change wpAnyH _ _ _ _ _ _ _ { tmps := #[_, _, _, _, _, _, _, _, _, _, _, _, _, _, _, _, _], defers := _ } _
    refine wpAnyH_take (i := 9) (v := undef) rfl (by kernel_rfl) (by kernel_rfl) (by kernel_rfl) (fun _ _ _ h => h) (Or.inr ⟨by rfl, rfl⟩) H ?_
    change wpAnyH _ _ _ _ _ _ _ { tmps := #[_, _, _, _, _, _, _, _, _, _, _, _, _, _, _, _, _], defers := _ } _
    refine wpAnyH_take (i := 10) (v := undef) rfl (by kernel_rfl) (by kernel_rfl) (by kernel_rfl) (fun _ _ _ h => h) (Or.inr ⟨by rfl, rfl⟩) H ?_
    change wpAnyH _ _ _ _ _ _ _ { tmps := #[_, _, _, _, _, _, _, _, _, _, _, _, _, _, _, _, _], defers := _ } _
    refine wpAnyH_take (i := 11) (v := undef) rfl (by kernel_rfl) (by kernel_rfl) (by kernel_rfl) (fun _ _ _ h => h) (Or.inr ⟨by rfl, rfl⟩) H ?_
    change wpAnyH _ _ _ _ _ _ _ { tmps := #[_, _, _, _, _, _, _, _, _, _, _, _, _, _, _, _, _], defers := _ } _
    refine wpAnyH_take (i := 12) (v := .bool false) rfl (by kernel_rfl) (by kernel_rfl) (by kernel_rfl) (fun _ _ _ h => h) (Or.inl ⟨by rfl, ?_⟩) H ?_
    · intro w' hSw; clear hSw; go_simp
    change wpAnyH _ _ _ _ _ _ _ { tmps := #[_, _, _, _, _, _, _, _, _, _, _, _, _, _, _, _, _], defers := _ } _
    refine wpAnyH_take (i := 13) (v := .bool false) rfl (by kernel_rfl) (by kernel_rfl) (by kernel_rfl) (fun _ _ _ h => h) (Or.inl ⟨by rfl, ?_⟩) H ?_
    · intro w' hSw; clear hSw; go_simp
    change wpAnyH _ _ _ _ _ _ _ { tmps := #[_, _, _, _, _, _, _, _, _, _, _, _, _, _, _, _, _], defers := _ } _
    refine wpAnyH_done (by kernel_rfl) ?_ _
    refine NoPanic.normal ?_
    replace BB : Hid (Below w.heap.size w x0) := BB.out.trans (H.mono BB.out.size)
    clear H R1 S1 HV PE
    go_wp2
    go_ret
    exact ⟨by rw [NS.out]; rfl, BB.out⟩
  · have PE : Hid (¬ r.en = -1) := pe
    clear pe NS
    have H : Below v0.heap.size v0 v0.drew := (Below.refl _ _).drew
    refine wp_region_noPanic ?_
    refine wp_region_held_drew (S := fun w' => Below v0.heap.size v0 w') (by kernel_rfl) H (fun _ => ?_)
    generalize v0.drew = x0 at *
    refine wpAnyH_take (i := 0) (v := .pointer (some ⟨rb, 4, none⟩)) rfl (by kernel_rfl) (by kernel_rfl) (by kernel_rfl) (fun _ _ _ h => h) (Or.inl ⟨by rfl, ?_⟩) H ?_
    · intro w' hSw; clear hSw; go_simp
    change wpAnyH _ _ _ _ _ _ _ { tmps := #[_, _, _, _, _, _, _, _, _, _, _, _, _, _, _, _, _], defers := _ } _
    refine wpAnyH_take (i := 1) (v := .int .i64 r.en) rfl (by kernel_rfl) (by kernel_rfl) (by kernel_rfl) (fun _ _ _ h => h) (Or.inl ⟨by rfl, ?_⟩) H ?_
    · intro w' hSw; have g : w'.cell? ⟨rb, 4, none⟩ = some (.int .i64 r.en) := (R1.out.below hSw).cell 4 (by omega); clear hSw; go_simp
    change wpAnyH _ _ _ _ _ _ _ { tmps := #[_, _, _, _, _, _, _, _, _, _, _, _, _, _, _, _, _], defers := _ } _
    refine wpAnyH_take (i := 2) (v := .bool true) rfl (by kernel_rfl) (by kernel_rfl) (by kernel_rfl) (fun _ _ _ h => h) (Or.inl ⟨by rfl, ?_⟩) H ?_
    · intro w' hSw; clear hSw; go_simp; exact PE.out
    change wpAnyH _ _ _ _ _ _ _ { tmps := #[_, _, _, _, _, _, _, _, _, _, _, _, _, _, _, _, _], defers := _ } _
    refine wpAnyH_take (i := 3) (v := .bool true) rfl (by kernel_rfl) (by kernel_rfl) (by kernel_rfl) (fun _ _ _ h => h) (Or.inl ⟨by rfl, ?_⟩) H ?_
    · intro w' hSw; clear hSw; go_simp
    change wpAnyH _ _ _ _ _ _ _ { tmps := #[_, _, _, _, _, _, _, _, _, _, _, _, _, _, _, _, _], defers := _ } _
    refine wpAnyH_take (i := 4) (v := .pointer (some ⟨rb, 1, none⟩)) rfl (by kernel_rfl) (by kernel_rfl) (by kernel_rfl) (fun _ _ _ h => h) (Or.inl ⟨by rfl, ?_⟩) H ?_
    · intro w' hSw; clear hSw; go_simp
    change wpAnyH _ _ _ _ _ _ _ { tmps := #[_, _, _, _, _, _, _, _, _, _, _, _, _, _, _, _, _], defers := _ } _
    refine wpAnyH_take (i := 5) (v := .pointer (some ⟨rb, 1, none⟩)) rfl (by kernel_rfl) (by kernel_rfl) (by kernel_rfl) (fun _ _ _ h => h) (Or.inl ⟨by rfl, ?_⟩) H ?_
    · intro w' hSw; clear hSw; go_simp
    change wpAnyH _ _ _ _ _ _ _ { tmps := #[_, _, _, _, _, _, _, _, _, _, _, _, _, _, _, _, _], defers := _ } _
    refine wpAnyH_take (i := 6) (v := .int .i64 r.bc) rfl (by kernel_rfl) (by kernel_rfl) (by kernel_rfl) (fun _ _ _ h => h) (Or.inl ⟨by rfl, ?_⟩) H ?_
    · intro w' hSw; have g : w'.cell? ⟨rb, 1, none⟩ = some (.int .i64 r.bc) := (R1.out.below hSw).cell 1 (by omega); clear hSw; go_simp
    change wpAnyH _ _ _ _ _ _ _ { tmps := #[_, _, _, _, _, _, _, _, _, _, _, _, _, _, _, _, _], defers := _ } _
    refine wpAnyH_take (i := 7) (v := .agg #[.slice p.a s.n p.ca, .int .i64 s.t, .slice p.b s.m p.cb, .slice p.d s.l p.cd]) rfl (by kernel_rfl) (by kernel_rfl) (by kernel_rfl) (fun _ _ _ h => h) (Or.inl ⟨by rfl, ?_⟩) H ?_
    · intro w' hSw; have g0 : w'.cell? ⟨sb, 0, none⟩ = some (.slice p.a s.n p.ca) := (S1.out.below hSw).cell 0 (by omega); have g1 : w'.cell? ⟨sb, 1, none⟩ = some (.int .i64 s.t) := (S1.out.below hSw).cell 1 (by omega); have g2 : w'.cell? ⟨sb, 2, none⟩ = some (.slice p.b s.m p.cb) := (S1.out.below hSw).cell 2 (by omega); have g3 : w'.cell? ⟨sb, 3, none⟩ = some (.slice p.d s.l p.cd) := (S1.out.below hSw).cell 3 (by omega); clear hSw; go_simp
    change wpAnyH _ _ _ _ _ _ _ { tmps := #[_, _, _, _, _, _, _, _, _, _, _, _, _, _, _, _, _], defers := _ } _
    refine wpAnyH_take (i := 8) (v := .pointer (some ⟨rb, 3, none⟩)) rfl (by kernel_rfl) (by kernel_rfl) (by kernel_rfl) (fun _ _ _ h => h) (Or.inl ⟨by rfl, ?_⟩) H ?_
    · intro w' hSw; clear hSw; go_simp
    change wpAnyH _ _ _ _ _ _ _ { tmps := #[_, _, _, _, _, _, _, _, _, _, _, _, _, _, _, _, _], defers := _ } _
    refine wpAnyH_take (i := 9) (v := .int .i64 r.bg) rfl (by kernel_rfl) (by kernel_rfl) (by kernel_rfl) (fun _ _ _ h => h) (Or.inl ⟨by rfl, ?_⟩) H ?_
    · intro w' hSw; have g : w'.cell? ⟨rb, 3, none⟩ = some (.int .i64 r.bg) := (R1.out.below hSw).cell 3 (by omega); clear hSw; go_simp
    change wpAnyH _ _ _ _ _ _ _ { tmps := #[_, _, _, _, _, _, _, _, _, _, _, _, _, _, _, _, _], defers := _ } _
    refine wpAnyH_ready (rs := [10]) (by kernel_rfl) (by simp) ?_
    refine AllReadyH.cons rfl (fun KK hK => ?_) AllReadyH.nil
    go_simp
    refine (AV.out _ (HV.out.below H)).mono ?_
    rintro e x1 ⟨⟨x, rfl, hax⟩, hb⟩
    replace H : Below v0.heap.size v0 x1 := H.trans (hb.mono H.size)
    have HZ : Hid (z = sB (¬ r.en = -1 ∧ r.bc < x)) := ST.out x hax
    clear hax
    obtain ⟨zz, hzz⟩ : ∃ zz, zz = decide (r.bc < x) := ⟨_, rfl⟩
    have HZ2 : Hid (z = zz) := by
      show z = zz
      rw [HZ.out, hzz]; unfold sB; by_cases g : r.bc < x <;> simp [g, PE.out]
    have ZZ : Hid (zz = decide (r.bc < x)) := hzz
    clear hzz
    clear hb
    refine hK.out _ _ H (fun _ => ?_)
    clear hK KK
    change wpAnyH _ _ _ _ _ _ _ { tmps := #[_, _, _, _, _, _, _, _, _, _, _, _, _, _, _, _, _], defers := _ } _
    refine wpAnyH_take (i := 11) (v := .bool zz) rfl (by kernel_rfl) (by kernel_rfl) (by kernel_rfl) (fun _ _ _ h => h) (Or.inl ⟨by rfl, ?_⟩) H ?_
    · intro w' hSw; clear hSw; go_simp; exact ZZ.out.symm
    change wpAnyH _ _ _ _ _ _ _ { tmps := #[_, _, _, _, _, _, _, _, _, _, _, _, _, _, _, _, _], defers := _ } _
    refine wpAnyH_take (i := 12) (v := .bool zz) rfl (by kernel_rfl) (by kernel_rfl) (by kernel_rfl) (fun _ _ _ h => h) (Or.inl ⟨by rfl, ?_⟩) H ?_
    · intro w' hSw; clear hSw; go_simp
    change wpAnyH _ _ _ _ _ _ _ { tmps := #[_, _, _, _, _, _, _, _, _, _, _, _, _, _, _, _, _], defers := _ } _
    refine wpAnyH_take (i := 13) (v := .bool zz) rfl (by kernel_rfl) (by kernel_rfl) (by kernel_rfl) (fun _ _ _ h => h) (Or.inl ⟨by rfl, ?_⟩) H ?_
    · intro w' hSw; clear hSw; go_simp
    change wpAnyH _ _ _ _ _ _ _ { tmps := #[_, _, _, _, _, _, _, _, _, _, _, _, _, _, _, _, _], defers := _ } _
    refine wpAnyH_done (by kernel_rfl) ?_ _
    refine NoPanic.normal ?_
    replace BB : Hid (Below w.heap.size w x1) := BB.out.trans (H.mono BB.out.size)
    clear H R1 S1 HV PE ST AV ZZ HZ
    go_wp2
    go_ret
    exact ⟨by rw [HZ2.out]; rfl, BB.out⟩
/-- What FreshReads answers. -/
def FrIs (s : Sv) (z : Bool) (c : Int) : Prop := (¬ s.Ok ∧ z = false ∧ c = 1) ∨ (s.Ok ∧ z = sB (¬ ∃ i, i < s.l ∧ Stale s i) ∧ c = 0)
set_option maxRecDepth 100000 in
set_option maxHeartbeats 4000000 in
theorem implFr_v (s : Sv) (p : Sa) (hx : s.max 1048576) (z : Bool) (c : Int) (hz : FrIs s z c) (w : World) (h : SvV w s p) :
    Calls Try.prog 12 #[.agg #[.slice p.a s.n p.ca, .int .i64 s.t, .slice p.b s.m p.cb, .slice p.d s.l p.cd]] w fun e w' => e = .returned (.tuple #[.bool z, .int .i64 c]) ∧ Below w.heap.size w w' := by
  have BB : Hid (Below w.heap.size w (w.alloc (.cells #[.slice p.a s.n p.ca, .int .i64 s.t, .slice p.b s.m p.cb, .slice p.d s.l p.cd] 30))) := (Below.refl w.heap.size w).alloc (Nat.le_refl _) _
  have S1 : Hid (BxF (w.alloc (.cells #[.slice p.a s.n p.ca, .int .i64 s.t, .slice p.b s.m p.cb, .slice p.d s.l p.cd] 30)) w.heap.size 30 4 (fun i => if i = 0 then .slice p.a s.n p.ca else if i = 1 then .int .i64 s.t else if i = 2 then .slice p.b s.m p.cb else .slice p.d s.l p.cd)) := BxF.sv _ _ _ _ _
  have HV : Hid (SvV (w.alloc (.cells #[.slice p.a s.n p.ca, .int .i64 s.t, .slice p.b s.m p.cb, .slice p.d s.l p.cd] 30)) s p) := h.below BB.out
  have IK : Hid (∀ (r : Bool) (w : World), r = sB s.Ok → SvV w s p → Calls Try.prog 15 #[.agg #[.slice p.a s.n p.ca, .int .i64 s.t, .slice p.b s.m p.cb, .slice p.d s.l p.cd]] w fun e w' => e = .returned (.bool r) ∧ Below w.heap.size w w') := fun r w hr h => implSvOK_v s p hx r hr w h
  rcases hz with ⟨ok, rfl, rfl⟩ | ⟨ok, hz, rfl⟩
  · have RB : Hid (false = sB s.Ok) := (sB_no ok).symm
    clear ok h hx
    go_enter Try.func12, Try.ntmps12
    go_wp2_with fail
    generalize (w.alloc (.cells #[.slice p.a s.n p.ca, .int .i64 s.t, .slice p.b s.m p.cb, .slice p.d s.l p.cd] 30)) = v0 at *
    refine (IK.out false _ RB.out HV.out).mono ?_
    rintro e v1 ⟨rfl, hb⟩
    replace BB : Hid (Below w.heap.size w v1) := BB.out.trans (hb.mono BB.out.size)
    clear hb S1 HV IK RB
    go_wp2
    go_ret2
    exact ⟨rfl, BB.out⟩
  · have RB : Hid (true = sB s.Ok) := (sB_yes ok).symm
    obtain ⟨y, hy⟩ : ∃ y, y = sB (∃ i, i < s.l ∧ Stale s i) := ⟨_, rfl⟩
    have CF : Hid (∀ (sb : Nat) (u : World), SvV u s p → BxF u sb 30 4 (fun i => if i = 0 then .slice p.a s.n p.ca else if i = 1 then .int .i64 s.t else if i = 2 then .slice p.b s.m p.cb else .slice p.d s.l p.cd) → Calls Try.prog 43 #[.slice p.d s.l p.cd, .func (.func 41) #[] #[.pointer (some ⟨sb, 0, none⟩)]] u fun e u' => e = .returned (.bool y) ∧ Below u.heap.size u u') := fun sb u hv hs => containsRf sb p.d s.l p.cd s.Q p.D p.Z (Stale s) hx.2.2.1 u hv.2.2 (fun i hi u' hb => clo3_v s p hx ok i hi (p.D i) (p.Z i) sb u' (hs.below hb) (hv.below hb)) y hy
    have HZ : Hid (z = !y) := by
      show z = !y
      rw [hz, hy]
      by_cases g : ∃ i, i < s.l ∧ Stale s i
      · rw [sB_yes g, sB_no (fun q => q g)]; rfl
      · rw [sB_no g, sB_yes g]; rfl
    clear ok hz hy h hx
    go_enter Try.func12, Try.ntmps12
    go_wp2_with fail
    generalize (w.alloc (.cells #[.slice p.a s.n p.ca, .int .i64 s.t, .slice p.b s.m p.cb, .slice p.d s.l p.cd] 30)) = v0 at *
    obtain ⟨sb, hsb⟩ : ∃ x, x = w.heap.size := ⟨_, rfl⟩
    rw [← hsb] at S1 ⊢
    clear hsb
    refine (IK.out true _ RB.out HV.out).mono ?_
    rintro e v1 ⟨rfl, hb⟩
    replace BB : Hid (Below w.heap.size w v1) := BB.out.trans (hb.mono BB.out.size)
    replace S1 : Hid (BxF v1 sb 30 4 (fun i => if i = 0 then .slice p.a s.n p.ca else if i = 1 then .int .i64 s.t else if i = 2 then .slice p.b s.m p.cb else .slice p.d s.l p.cd)) := S1.out.below hb
    replace HV : Hid (SvV v1 s p) := HV.out.below hb
    clear hb IK RB
    have t3 : v1.cell? ⟨sb, 3, none⟩ = some (.slice p.d s.l p.cd) := S1.out.cell 3 (by omega)
    go_wp2_with fail
    clear t3
    refine (CF.out sb _ HV.out S1.out).mono ?_
    rintro e v2 ⟨rfl, hb⟩
    replace BB : Hid (Below w.heap.size w v2) := BB.out.trans (hb.mono BB.out.size)
    clear hb CF S1 HV
    go_wp2
    go_ret2
    exact ⟨by rw [HZ.out]; rfl, BB.out⟩
end Go.Proofs.Ytdoacpnjggdojaa
