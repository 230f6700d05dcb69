/-
  FilesBytes of the model (written by tools/mkbys.py).
-/
import Derived.Test.YtglfhajfbdjjcaaFileBy
import Derived.Test.YtglfhajfbdjjcaaFileOkS
import Derived.Test.YtglfhajfbdjjcaaAnyH
namespace Go.Proofs.Ytglfhajfbdjjcaa
open Go.ChangeShapes Go.WideShapes Go.ChangeAt Go.RowKit
set_option linter.unusedVariables false
/-- The bytes L lie in block b from its head on. -/
def LitF (w : World) (b : Nat) (L : List Nat) : Prop := ∀ j (hj : j < L.length), w.cell? ⟨b, 0 + j, none⟩ = some (.int .u8 ((L[j] : Nat) : Int))
theorem LitF.keep {w w' : World} {b : Nat} {L : List Nat} (h : LitF w b L) (e : w'.heap[b]? = w.heap[b]?) : LitF w' b L := fun j hj => (World.cell?_of_block (w := w) (a := ⟨b, 0 + j, none⟩) e).trans (h j hj)
theorem LitF.below {w w' : World} {b : Nat} {L : List Nat} (h : LitF w b L) (hb : Below w.heap.size w w') (hl : b < w.heap.size) : LitF w' b L := h.keep (hb.block b hl)
theorem numEqUF {a b : Int} (h : a = b) : Value.int .u8 a = .int .u8 b := by rw [h]
theorem numL2F (x : Nat) : numL 2 x = [x / 256 % 256, x % 256] := by
  unfold numL numP
  simp [List.range, List.range.loop]
theorem litF_of {w : World} {b : Nat} {L : List Nat} {t : TypeId} {m : Nat} (F : Nat → Value) (h : w.rowIs b t m F) (hm : L.length ≤ m) (e : ∀ j (hj : j < L.length), F j = .int .u8 ((L[j] : Nat) : Int)) : LitF w b L := fun j hj => by
  rw [Nat.zero_add, World.rowIs.cell h (by omega), e j hj]
theorem l08TwoF (k : Nat) (hk : k ≤ 65535) (w : World) :
    Calls Try.prog 124 #[.int .i64 (k : Int)] w fun e w' => (e = .returned (.slice (some ⟨w.heap.size, 0, none⟩) 2 2) ∧ LitF w' w.heap.size (numL 2 k) ∧ w.heap.size < w'.heap.size) ∧ Below w.heap.size w w' := by
  go_enter Try.func124, Try.ntmps124
  go_wp2
  go_ret
  refine ⟨⟨rfl, litF_of _ (World.rowIs_alloc w #[.int .u8 ((k : Int) / 256), .int .u8 ((k : Int) % 256)] 5 (fun i => if i = 0 then .int .u8 ((k : Int) / 256) else .int .u8 ((k : Int) % 256)) (fun i hi => ?_)) (by rw [numL_length]; exact Nat.le_refl _) (fun j hj => ?_), by simp⟩, (Below.refl _ _).alloc (Nat.le_refl _) _⟩
  · have hi' : i < 2 := by simpa using hi
    rcases (show i = 0 ∨ i = 1 by omega) with rfl | rfl <;> rfl
  · rw [numL_length] at hj
    simp only [numL2F]
    rcases (show j = 0 ∨ j = 1 by omega) with rfl | rfl
    · exact numEqUF (by show (k : Int) / 256 = ((k / 256 % 256 : Nat) : Int); omega)
    · exact numEqUF (by show (k : Int) % 256 = ((k % 256 : Nat) : Int); omega)
theorem l01BitF (r : Bool) (w : World) : Calls Try.prog 123 #[.bool r] w fun e w' => e = .returned (.int .i64 ((bitN r : Nat) : Int)) ∧ w = w' := by
  cases r with
  | true =>
    go_enter Try.func123, Try.ntmps123
    go_wp2
    go_ret
    exact ⟨rfl, rfl⟩
  | false =>
    go_enter Try.func123, Try.ntmps123
    go_wp2
    go_ret
    exact ⟨rfl, rfl⟩
theorem StF.addL {v0 W : World} {rb g c q : Nat} {L : List Nat} {x : Fi} (h : StF v0 W rb g c q L x) (zb : Nat) (N : List Nat) (m : Nat) (hm : m = N.length) (hN : LitF W zb N) (hq : q + m ≤ 900000) (cq : Nat) :
    ∃ g' c' W', (∀ ty, (Builtin.append_ #[30, 30] ty #[.slice (some ⟨g, 0, none⟩) q c, .slice (some ⟨zb, 0, none⟩) m cq]).run Try.prog W = .ok (.slice (some ⟨g', 0, none⟩) (q + m) c') W') ∧ StF v0 W' rb g' c' (q + m) (L ++ N) x ∧ OnlyB g W W' ∧ (g' = g ∨ g' = W.heap.size) := by
  have hl := h.len
  subst hm
  obtain ⟨g3, c3, w3, hr3, hrow3, ho3, hg3⟩ := appL W v0.heap.size g c L N zb 0 cq 30 h.hb.size (by omega) h.row hN
  have el2 : (L ++ N).length = q + N.length := by rw [List.length_append, hl]
  rw [← hl, el2] at hr3
  have bl := h.box.lt
  refine ⟨g3, c3, w3, fun ty => hr3, ⟨hrow3, el2.symm, ?_, h.box.ofBlock (ho3.block _ bl h.ne.symm), h.hb.trans (ho3.toBelow h.row.ge.1 h.hb.size)⟩, ho3, hg3⟩
  rcases hg3 with e | e
  · rw [e]; exact h.ne
  · omega
set_option maxRecDepth 100000 in
set_option maxHeartbeats 8000000 in
theorem l11Bytes_any (a : Option Addr) (n c : Nat) (F : Nat → Fi) (hok : FsOk n F) (v0 : World) (h : Els v0 3 a n (fiF F)) :
    Calls Try.prog 97 #[.slice a n c] v0 fun e w' => (∃ g c, e = .returned (.slice (some ⟨g, 0, none⟩) (filL n F).length c) ∧ RL w' v0.heap.size g c (filL n F)) ∧ Below v0.heap.size v0 w' := by
  have HO : Hid (FsOk n F) := hok
  have hn := hok.1
  have y0 : (n : Int) % 256 = (n : Int) := by omega
  have RB : Hid (RL (v0.alloc (.cells #[.int .u8 ((n : Nat) : Int)] 5)) v0.heap.size v0.heap.size 1 [n]) := RL.made v0 _ [n] 1 rfl (by omega) rfl
  have BB : Hid (Below v0.heap.size v0 (v0.alloc (.cells #[.int .u8 ((n : Nat) : Int)] 5))) := (Below.refl _ _).alloc (Nat.le_refl _) _
  have V0 : Hid (Els v0 3 a n (fiF F)) := h
  clear hok h
  go_enter Try.func97, Try.ntmps97
  go_wp2
  generalize (v0.alloc (.cells #[.int .u8 ((n : Nat) : Int)] 5)) = v1 at *
  go_loopw [3, 4] (fun s i wr => ∃ k g c q : Nat, k ≤ n ∧ i = .int .i64 k ∧ s = .slice (some ⟨g, 0, none⟩) q c ∧ q = ([n] ++ flatF fiL F k).length ∧ RL wr v0.heap.size g c ([n] ++ flatF fiL F k) ∧ Below v0.heap.size v0 wr) (fun _ i _ => n - (intOf i).toNat)
  case atStart => exact ⟨0, v0.heap.size, 1, 1, by omega, rfl, rfl, rfl, by simpa [flatF] using RB.out, BB.out⟩
  case round =>
    clear RB BB
    obtain ⟨k, g, c2, q, hk, rfl, rfl, hq, hrow, hb⟩ := hrel
    have HR : Hid (RL wr v0.heap.size g c2 ([n] ++ flatF fiL F k)) := hrow
    have HB : Hid (Below v0.heap.size v0 wr) := hb
    have HQ : Hid (q = ([n] ++ flatF fiL F k).length) := hq
    have hql : q ≤ 1 + 12 * 244 := by
      have := flatF_le (n := k) (F := F) (fun i hi => (HO.out.2 i (by omega)).1)
      rw [List.length_append] at hq
      simp at hq
      omega
    clear hrow hb hq
    by_cases hlt : k < n
    · have hlt' : (k : Int) < (n : Int) := by omega
      obtain ⟨b, off, rfl, hc⟩ := (V0.out.below HB.out).opened (by omega)
      obtain ⟨c0, c1, c2'⟩ := Els.fiC hc k hlt
      have hfo := (HO.out.2 k hlt).1
      have hps := hfo.1.1
      have hts := hfo.2.1
      have EF : Hid (flatF fiL F (k + 1) = flatF fiL F k ++ fiL (F k)) := rfl
      obtain ⟨v2, hv2⟩ : ∃ v2, v2 = wr.alloc (.cells #[.string (F k).p, .bool (F k).d, .string (F k).t] 33) := ⟨_, rfl⟩
      have hbr : Below wr.heap.size wr v2 := by rw [hv2]; exact (Below.refl _ _).alloc (Nat.le_refl _) _
      have S2 : Hid (StF v0 v2 wr.heap.size g c2 q ([n] ++ flatF fiL F k) (F k)) := ⟨HR.out.below hbr, HQ.out, by have := HR.out.ge; omega, by rw [hv2]; exact Box3.made _ _ _ _ _, HB.out.trans (hbr.mono HB.out.size)⟩
      have HV2 : Hid (wr.alloc (.cells #[.string (F k).p, .bool (F k).d, .string (F k).t] 33) = v2) := hv2.symm
      have EL : Hid ([n] ++ flatF fiL F k ++ [(F k).p.size] ++ strL (F k).p ++ [bitN (F k).d] ++ numL 2 (F k).t.size ++ strL (F k).t = [n] ++ flatF fiL F (k + 1)) := by
        show _ = _
        rw [EF.out]
        unfold fiL
        simp only [List.append_assoc]
      have hp256 : ((F k).p.size : Int) % 256 = ((F k).p.size : Int) := by omega
      have hpw : IntKind.u8.wrap ((F k).p.size : Int) = ((F k).p.size : Int) := IntWalk.u8_in _ (by omega)
      generalize [n] ++ flatF fiL F k = L at *
      generalize F k = y at *
      have BIT : Hid (∀ w : World, Calls Try.prog 123 #[.bool y.d] w fun e w' => e = .returned (.int .i64 ((bitN y.d : Nat) : Int)) ∧ w = w') := l01BitF y.d
      have hb1 : bitN y.d ≤ 1 := by unfold bitN; split <;> omega
      have hbw : IntKind.u8.wrap ((bitN y.d : Nat) : Int) = ((bitN y.d : Nat) : Int) := IntWalk.u8_in _ (by omega)
      have hb256 : ((bitN y.d : Nat) : Int) % 256 = ((bitN y.d : Nat) : Int) := by omega
      have TWO : Hid (∀ w : World, Calls Try.prog 124 #[.int .i64 (y.t.size : Int)] w fun e w' => (e = .returned (.slice (some ⟨w.heap.size, 0, none⟩) 2 2) ∧ LitF w' w.heap.size (numL 2 y.t.size) ∧ w.heap.size < w'.heap.size) ∧ Below w.heap.size w w') := fun w => l08TwoF y.t.size (by omega) w
      clear hfo hc hbr hv2 EF HQ HR HB
      go_upto_region 6 with fail
      rw [HV2.out]
      clear c0 c1 c2' HV2
      generalize wr.heap.size = rb at *
      have S20 : Hid (StF v0 v2.drew rb g c2 q L y) := S2.out.below ((Below.refl _ _).drew)
      have H : Box3 v2.drew rb 33 (.string y.p) (.bool y.d) (.string y.t) := S20.out.box
      refine wp_region_noPanic ?_
      refine wp_region_held_drew (S := fun w' => Box3 w' rb 33 (.string y.p) (.bool y.d) (.string y.t)) (by kernel_rfl) H (fun _ => ?_)
      generalize v2.drew = x0 at *
      refine wpAnyH_take (i := 0) (v := .slice (some ⟨g, 0, none⟩) q c2) rfl (by kernel_rfl) (by kernel_rfl) (by kernel_rfl) (fun _ _ _ h => h) (Or.inl ⟨by rfl, ?_⟩) H ?_
      · intro w' hSw; clear hSw; go_simp
      change wpAnyH _ _ _ _ _ _ _ { tmps := #[_, _, _, _, _, _, _, _, _, _, _, _, _, _, _, _, _, _, _, _, _, _, _, _, _, _, _, _, _, _, _, _, _, _, _, _, _, _, _, _, _, _, _, _, _, _, _], defers := _ } _
      refine wpAnyH_take (i := 1) (v := .pointer (some ⟨rb, 0, none⟩)) rfl (by kernel_rfl) (by kernel_rfl) (by kernel_rfl) (fun _ _ _ h => h) (Or.inl ⟨by rfl, ?_⟩) H ?_
      · intro w' hSw; clear hSw; go_simp
      change wpAnyH _ _ _ _ _ _ _ { tmps := #[_, _, _, _, _, _, _, _, _, _, _, _, _, _, _, _, _, _, _, _, _, _, _, _, _, _, _, _, _, _, _, _, _, _, _, _, _, _, _, _, _, _, _, _, _, _, _], defers := _ } _
      refine wpAnyH_take (i := 2) (v := .string y.p) rfl (by kernel_rfl) (by kernel_rfl) (by kernel_rfl) (fun _ _ _ h => h) (Or.inl ⟨by rfl, ?_⟩) H ?_
      · intro w' hSw; have t0 := hSw.c0; clear hSw; go_simp
      change wpAnyH _ _ _ _ _ _ _ { tmps := #[_, _, _, _, _, _, _, _, _, _, _, _, _, _, _, _, _, _, _, _, _, _, _, _, _, _, _, _, _, _, _, _, _, _, _, _, _, _, _, _, _, _, _, _, _, _, _], defers := _ } _
      refine wpAnyH_take (i := 3) (v := .int .i64 (y.p.size : Int)) rfl (by kernel_rfl) (by kernel_rfl) (by kernel_rfl) (fun _ _ _ h => h) (Or.inl ⟨by rfl, ?_⟩) H ?_
      · intro w' hSw; clear hSw; go_simp
      change wpAnyH _ _ _ _ _ _ _ { tmps := #[_, _, _, _, _, _, _, _, _, _, _, _, _, _, _, _, _, _, _, _, _, _, _, _, _, _, _, _, _, _, _, _, _, _, _, _, _, _, _, _, _, _, _, _, _, _, _], defers := _ } _
      refine wpAnyH_take (i := 4) (v := .int .u8 (y.p.size : Int)) rfl (by kernel_rfl) (by kernel_rfl) (by kernel_rfl) (fun _ _ _ h => h) (Or.inl ⟨by rfl, ?_⟩) H ?_
      · intro w' hSw; clear hSw; go_simp
      change wpAnyH _ _ _ _ _ _ _ { tmps := #[_, _, _, _, _, _, _, _, _, _, _, _, _, _, _, _, _, _, _, _, _, _, _, _, _, _, _, _, _, _, _, _, _, _, _, _, _, _, _, _, _, _, _, _, _, _, _], defers := _ } _
      refine wpAnyH_take (i := 7) (v := .pointer (some ⟨rb, 0, none⟩)) rfl (by kernel_rfl) (by kernel_rfl) (by kernel_rfl) (fun _ _ _ h => h) (Or.inl ⟨by rfl, ?_⟩) H ?_
      · intro w' hSw; clear hSw; go_simp
      change wpAnyH _ _ _ _ _ _ _ { tmps := #[_, _, _, _, _, _, _, _, _, _, _, _, _, _, _, _, _, _, _, _, _, _, _, _, _, _, _, _, _, _, _, _, _, _, _, _, _, _, _, _, _, _, _, _, _, _, _], defers := _ } _
      refine wpAnyH_take (i := 8) (v := .string y.p) rfl (by kernel_rfl) (by kernel_rfl) (by kernel_rfl) (fun _ _ _ h => h) (Or.inl ⟨by rfl, ?_⟩) H ?_
      · intro w' hSw; have t0 := hSw.c0; clear hSw; go_simp
      change wpAnyH _ _ _ _ _ _ _ { tmps := #[_, _, _, _, _, _, _, _, _, _, _, _, _, _, _, _, _, _, _, _, _, _, _, _, _, _, _, _, _, _, _, _, _, _, _, _, _, _, _, _, _, _, _, _, _, _, _], defers := _ } _
      obtain ⟨g3, c3, v3, r3, s3⟩ := S20.out.add1 y.p.size (by omega)
      have S3 : Hid (StF v0 v3 rb g3 c3 (q + 1) (L ++ [y.p.size]) y) := s3
      obtain ⟨g4, c4, v4, r4, s4⟩ := S3.out.addT y.p (by omega)
      have S4 : Hid (StF v0 v4 rb g4 c4 (q + 1 + y.p.size) (L ++ [y.p.size] ++ strL y.p) y) := s4
      have H1 : Box3 (x0.alloc (.cells #[.int .u8 ((y.p.size : Nat) : Int)] 5)) rb 33 (.string y.p) (.bool y.d) (.string y.t) := S20.out.box.alloc _
      have H2 : Box3 v3 rb 33 (.string y.p) (.bool y.d) (.string y.t) := S3.out.box
      have H3 : Box3 v4 rb 33 (.string y.p) (.bool y.d) (.string y.t) := S4.out.box
      clear s3 s4
      refine wpAnyH_ready (rs := [5]) (by kernel_rfl) (by simp) ?_
      refine AllReadyH.cons rfl (fun KK hK => ?_) AllReadyH.nil
      go_simp
      refine hK.out _ _ H1 (fun _ => ?_)
      clear hK KK
      change wpAnyH _ _ _ _ _ _ _ { tmps := #[_, _, _, _, _, _, _, _, _, _, _, _, _, _, _, _, _, _, _, _, _, _, _, _, _, _, _, _, _, _, _, _, _, _, _, _, _, _, _, _, _, _, _, _, _, _, _], defers := _ } _
      refine wpAnyH_ready (rs := [6]) (by kernel_rfl) (by simp) ?_
      refine AllReadyH.cons rfl (fun KK hK => ?_) AllReadyH.nil
      rw [if_pos (by rfl)]
      refine Lib.wp_append_run _ (.tmp 20) (.tmp 25) 30 30 rfl (.slice (some ⟨g, 0, none⟩) q c2) (.slice (some ⟨x0.heap.size, 0, none⟩) 1 1) rfl rfl _ _ (r3 _) ?_
      refine hK.out _ _ H2 (fun _ => ?_)
      clear hK KK
      change wpAnyH _ _ _ _ _ _ _ { tmps := #[_, _, _, _, _, _, _, _, _, _, _, _, _, _, _, _, _, _, _, _, _, _, _, _, _, _, _, _, _, _, _, _, _, _, _, _, _, _, _, _, _, _, _, _, _, _, _], defers := _ } _
      refine wpAnyH_ready (rs := [9]) (by kernel_rfl) (by simp) ?_
      refine AllReadyH.cons rfl (fun KK hK => ?_) AllReadyH.nil
      rw [if_pos (by rfl)]
      refine Lib.wp_append_run _ (.tmp 26) (.tmp 28) 30 9 rfl (.slice (some ⟨g3, 0, none⟩) (q + 1) c3) (.string y.p) rfl rfl _ _ (r4 _) ?_
      refine hK.out _ _ H3 (fun _ => ?_)
      clear hK KK
      change wpAnyH _ _ _ _ _ _ _ { tmps := #[_, _, _, _, _, _, _, _, _, _, _, _, _, _, _, _, _, _, _, _, _, _, _, _, _, _, _, _, _, _, _, _, _, _, _, _, _, _, _, _, _, _, _, _, _, _, _], defers := _ } _
      refine wpAnyH_take (i := 10) (v := .slice (some ⟨g4, 0, none⟩) (q + 1 + y.p.size) c4) rfl (by kernel_rfl) (by kernel_rfl) (by kernel_rfl) (fun _ _ _ h => h) (Or.inl ⟨by rfl, ?_⟩) H3 ?_
      · intro w' hSw; clear hSw; go_simp
      change wpAnyH _ _ _ _ _ _ _ { tmps := #[_, _, _, _, _, _, _, _, _, _, _, _, _, _, _, _, _, _, _, _, _, _, _, _, _, _, _, _, _, _, _, _, _, _, _, _, _, _, _, _, _, _, _, _, _, _, _], defers := _ } _
      refine wpAnyH_done (by kernel_rfl) ?_ _
      refine NoPanic.normal ?_
      clear r3 r4 H H1 H2 H3 S2 S20 S3
      go_wp2_with fail
      have S40 : Hid (StF v0 v4.drew rb g4 c4 (q + 1 + y.p.size) (L ++ [y.p.size] ++ strL y.p) y) := S4.out.below ((Below.refl _ _).drew)
      have H : Box3 v4.drew rb 33 (.string y.p) (.bool y.d) (.string y.t) := S40.out.box
      refine wp_region_noPanic ?_
      refine wp_region_held_drew (S := fun w' => Box3 w' rb 33 (.string y.p) (.bool y.d) (.string y.t)) (by kernel_rfl) H (fun _ => ?_)
      generalize v4.drew = z0 at *
      refine wpAnyH_take (i := 0) (v := .slice (some ⟨g4, 0, none⟩) (q + 1 + y.p.size) c4) rfl (by kernel_rfl) (by kernel_rfl) (by kernel_rfl) (fun _ _ _ h => h) (Or.inl ⟨by rfl, ?_⟩) H ?_
      · intro w' hSw; clear hSw; go_simp
      change wpAnyH _ _ _ _ _ _ _ { tmps := #[_, _, _, _, _, _, _, _, _, _, _, _, _, _, _, _, _, _, _, _, _, _, _, _, _, _, _, _, _, _, _, _, _, _, _, _, _, _, _, _, _, _, _, _, _, _, _], defers := _ } _
      refine wpAnyH_take (i := 1) (v := .pointer (some ⟨rb, 1, none⟩)) rfl (by kernel_rfl) (by kernel_rfl) (by kernel_rfl) (fun _ _ _ h => h) (Or.inl ⟨by rfl, ?_⟩) H ?_
      · intro w' hSw; clear hSw; go_simp
      change wpAnyH _ _ _ _ _ _ _ { tmps := #[_, _, _, _, _, _, _, _, _, _, _, _, _, _, _, _, _, _, _, _, _, _, _, _, _, _, _, _, _, _, _, _, _, _, _, _, _, _, _, _, _, _, _, _, _, _, _], defers := _ } _
      refine wpAnyH_take (i := 2) (v := .bool y.d) rfl (by kernel_rfl) (by kernel_rfl) (by kernel_rfl) (fun _ _ _ h => h) (Or.inl ⟨by rfl, ?_⟩) H ?_
      · intro w' hSw; have t0 := hSw.c1; clear hSw; go_simp
      change wpAnyH _ _ _ _ _ _ _ { tmps := #[_, _, _, _, _, _, _, _, _, _, _, _, _, _, _, _, _, _, _, _, _, _, _, _, _, _, _, _, _, _, _, _, _, _, _, _, _, _, _, _, _, _, _, _, _, _, _], defers := _ } _
      refine wpAnyH_take (i := 7) (v := .pointer (some ⟨rb, 2, none⟩)) rfl (by kernel_rfl) (by kernel_rfl) (by kernel_rfl) (fun _ _ _ h => h) (Or.inl ⟨by rfl, ?_⟩) H ?_
      · intro w' hSw; clear hSw; go_simp
      change wpAnyH _ _ _ _ _ _ _ { tmps := #[_, _, _, _, _, _, _, _, _, _, _, _, _, _, _, _, _, _, _, _, _, _, _, _, _, _, _, _, _, _, _, _, _, _, _, _, _, _, _, _, _, _, _, _, _, _, _], defers := _ } _
      refine wpAnyH_take (i := 8) (v := .string y.t) rfl (by kernel_rfl) (by kernel_rfl) (by kernel_rfl) (fun _ _ _ h => h) (Or.inl ⟨by rfl, ?_⟩) H ?_
      · intro w' hSw; have t0 := hSw.c2; clear hSw; go_simp
      change wpAnyH _ _ _ _ _ _ _ { tmps := #[_, _, _, _, _, _, _, _, _, _, _, _, _, _, _, _, _, _, _, _, _, _, _, _, _, _, _, _, _, _, _, _, _, _, _, _, _, _, _, _, _, _, _, _, _, _, _], defers := _ } _
      refine wpAnyH_take (i := 9) (v := .int .i64 (y.t.size : Int)) rfl (by kernel_rfl) (by kernel_rfl) (by kernel_rfl) (fun _ _ _ h => h) (Or.inl ⟨by rfl, ?_⟩) H ?_
      · intro w' hSw; clear hSw; go_simp
      change wpAnyH _ _ _ _ _ _ _ { tmps := #[_, _, _, _, _, _, _, _, _, _, _, _, _, _, _, _, _, _, _, _, _, _, _, _, _, _, _, _, _, _, _, _, _, _, _, _, _, _, _, _, _, _, _, _, _, _, _], defers := _ } _
      have SF : Hid (StF v0 z0 rb g4 c4 (q + 1 + y.p.size) (L ++ [y.p.size] ++ strL y.p) y) := S40
      clear S4 S40
      refine wpAnyH_ready (rs := [3]) (by kernel_rfl) (by simp) ?_
      refine (AllReadyH.cons rfl (fun KK hK => ?_) AllReadyH.nil)
      go_simp
      refine (BIT.out _).mono ?_
      rintro e z1 ⟨rfl, hw⟩
      cases hw
      refine hK.out _ _ H (fun _ => ?_)
      clear hK KK
      change wpAnyH _ _ _ _ _ _ _ { tmps := #[_, _, _, _, _, _, _, _, _, _, _, _, _, _, _, _, _, _, _, _, _, _, _, _, _, _, _, _, _, _, _, _, _, _, _, _, _, _, _, _, _, _, _, _, _, _, _], defers := _ } _
      refine wpAnyH_take (i := 4) (v := .int .u8 ((bitN y.d : Nat) : Int)) rfl (by kernel_rfl) (by kernel_rfl) (by kernel_rfl) (fun _ _ _ h => h) (Or.inl ⟨by rfl, ?_⟩) H ?_
      · intro w' hSw; clear hSw; go_simp
      change wpAnyH _ _ _ _ _ _ _ { tmps := #[_, _, _, _, _, _, _, _, _, _, _, _, _, _, _, _, _, _, _, _, _, _, _, _, _, _, _, _, _, _, _, _, _, _, _, _, _, _, _, _, _, _, _, _, _, _, _], defers := _ } _
      refine wpAnyH_ready (rs := [5]) (by kernel_rfl) (by simp) ?_
      refine (AllReadyH.cons rfl (fun KK hK => ?_) AllReadyH.nil)
      go_simp
      have hb : Below z0.heap.size z0 (z0.alloc (.cells #[.int .u8 ((bitN y.d : Nat) : Int)] 5)) := (Below.refl _ _).alloc (Nat.le_refl _) _
      replace SF : Hid (StF v0 (z0.alloc (.cells #[.int .u8 ((bitN y.d : Nat) : Int)] 5)) rb g4 c4 (q + 1 + y.p.size) (L ++ [y.p.size] ++ strL y.p) y) := SF.out.below hb
      have ZT : Hid (LitF (z0.alloc (.cells #[.int .u8 ((bitN y.d : Nat) : Int)] 5)) z0.heap.size [bitN y.d] ∧ z0.heap.size < (z0.alloc (.cells #[.int .u8 ((bitN y.d : Nat) : Int)] 5)).heap.size) := ⟨lit1F z0 _, by simp⟩
      replace H : Box3 (z0.alloc (.cells #[.int .u8 ((bitN y.d : Nat) : Int)] 5)) rb 33 (.string y.p) (.bool y.d) (.string y.t) := SF.out.box
      clear hb
      refine hK.out _ _ H (fun _ => ?_)
      clear hK KK
      generalize (z0.alloc (.cells #[.int .u8 ((bitN y.d : Nat) : Int)] 5)) = z2 at *
      generalize z0.heap.size = zb at *
      change wpAnyH _ _ _ _ _ _ _ { tmps := #[_, _, _, _, _, _, _, _, _, _, _, _, _, _, _, _, _, _, _, _, _, _, _, _, _, _, _, _, _, _, _, _, _, _, _, _, _, _, _, _, _, _, _, _, _, _, _], defers := _ } _
      refine wpAnyH_ready (rs := [6]) (by kernel_rfl) (by simp) ?_
      refine (AllReadyH.cons rfl (fun KK hK => ?_) AllReadyH.nil)
      obtain ⟨ga3, ca3, z3, rr, sf, oo, gg⟩ := SF.out.addL zb [bitN y.d] 1 rfl ZT.out.1 (by omega) 1
      replace SF : Hid (StF v0 z3 rb ga3 ca3 (q + 1 + y.p.size + 1) (L ++ [y.p.size] ++ strL y.p ++ [bitN y.d]) y) := sf
      rw [if_pos (by rfl)]
      refine Lib.wp_append_run _ (.tmp 30) (.tmp 35) 30 30 rfl (.slice (some ⟨g4, 0, none⟩) (q + 1 + y.p.size) c4) (.slice (some ⟨zb, 0, none⟩) 1 1) rfl rfl _ _ (rr _) ?_
      replace H : Box3 z3 rb 33 (.string y.p) (.bool y.d) (.string y.t) := SF.out.box
      refine hK.out _ _ H (fun _ => ?_)
      clear hK KK rr sf oo gg ZT
      change wpAnyH _ _ _ _ _ _ _ { tmps := #[_, _, _, _, _, _, _, _, _, _, _, _, _, _, _, _, _, _, _, _, _, _, _, _, _, _, _, _, _, _, _, _, _, _, _, _, _, _, _, _, _, _, _, _, _, _, _], defers := _ } _
      refine wpAnyH_ready (rs := [10]) (by kernel_rfl) (by simp) ?_
      refine (AllReadyH.cons rfl (fun KK hK => ?_) AllReadyH.nil)
      go_simp
      refine (TWO.out _).mono ?_
      rintro e z4 ⟨⟨rfl, hlit, hlt2⟩, hb⟩
      have gl := SF.out.row.ge
      have LT : Hid (LitF z4 z3.heap.size (numL 2 y.t.size) ∧ z3.heap.size < z4.heap.size ∧ z3.heap.size ≠ ga3) := ⟨hlit, hlt2, by omega⟩
      replace SF : Hid (StF v0 z4 rb ga3 ca3 (q + 1 + y.p.size + 1) (L ++ [y.p.size] ++ strL y.p ++ [bitN y.d]) y) := SF.out.below hb
      replace H : Box3 z4 rb 33 (.string y.p) (.bool y.d) (.string y.t) := SF.out.box
      clear hb hlit hlt2 gl
      generalize z3.heap.size = tb at *
      refine hK.out _ _ H (fun _ => ?_)
      clear hK KK
      change wpAnyH _ _ _ _ _ _ _ { tmps := #[_, _, _, _, _, _, _, _, _, _, _, _, _, _, _, _, _, _, _, _, _, _, _, _, _, _, _, _, _, _, _, _, _, _, _, _, _, _, _, _, _, _, _, _, _, _, _], defers := _ } _
      refine wpAnyH_ready (rs := [11]) (by kernel_rfl) (by simp) ?_
      refine (AllReadyH.cons rfl (fun KK hK => ?_) AllReadyH.nil)
      obtain ⟨ga5, ca5, z5, rr, sf, oo, gg⟩ := SF.out.addL tb (numL 2 y.t.size) 2 (numL_length 2 _).symm LT.out.1 (by omega) 2
      replace SF : Hid (StF v0 z5 rb ga5 ca5 (q + 1 + y.p.size + 1 + 2) (L ++ [y.p.size] ++ strL y.p ++ [bitN y.d] ++ numL 2 y.t.size) y) := sf
      rw [if_pos (by rfl)]
      refine Lib.wp_append_run _ (.tmp 36) (.tmp 40) 30 30 rfl (.slice (some ⟨ga3, 0, none⟩) (q + 1 + y.p.size + 1) ca3) (.slice (some ⟨tb, 0, none⟩) 2 2) rfl rfl _ _ (rr _) ?_
      replace H : Box3 z5 rb 33 (.string y.p) (.bool y.d) (.string y.t) := SF.out.box
      refine hK.out _ _ H (fun _ => ?_)
      clear hK KK rr sf oo gg LT
      change wpAnyH _ _ _ _ _ _ _ { tmps := #[_, _, _, _, _, _, _, _, _, _, _, _, _, _, _, _, _, _, _, _, _, _, _, _, _, _, _, _, _, _, _, _, _, _, _, _, _, _, _, _, _, _, _, _, _, _, _], defers := _ } _
      refine wpAnyH_take (i := 12) (v := .slice (some ⟨ga5, 0, none⟩) (q + 1 + y.p.size + 1 + 2) ca5) rfl (by kernel_rfl) (by kernel_rfl) (by kernel_rfl) (fun _ _ _ h => h) (Or.inl ⟨by rfl, ?_⟩) H ?_
      · intro w' hSw; clear hSw; go_simp
      change wpAnyH _ _ _ _ _ _ _ { tmps := #[_, _, _, _, _, _, _, _, _, _, _, _, _, _, _, _, _, _, _, _, _, _, _, _, _, _, _, _, _, _, _, _, _, _, _, _, _, _, _, _, _, _, _, _, _, _, _], defers := _ } _
      refine wpAnyH_done (by kernel_rfl) ?_ _
      refine NoPanic.normal ?_
      obtain ⟨g7, c7, v7, r7, s7⟩ := SF.out.addT y.t (by omega)
      rw [EL.out] at s7
      have S7 : Hid (StF v0 v7 rb g7 c7 ((q + 1 + y.p.size + 1) + 2 + y.t.size) ([n] ++ flatF fiL F (k + 1)) y) := s7
      have x2 := SF.out.box.c2
      clear s7 SF H
      go_wp2_with (at_builtin; refine Lib.wpList_append_run _ rfl (.tmp 42) (.tmp 44) 30 9 rfl (.slice (some ⟨ga5, 0, none⟩) (q + 1 + y.p.size + 1 + 2) ca5) (.string y.t) rfl rfl _ _ (r7 _) ?_)
      go_roundw
      case rel => exact ⟨k + 1, g7, c7, _, by omega, by go_num, rfl, S7.out.len, S7.out.row, S7.out.hb⟩
      case measure => simp [intOf]; omega
    · obtain rfl : k = n := by omega
      have hlt' : ¬ (k : Int) < (k : Int) := by omega
      have HE : Hid (q = (filL k F).length ∧ RL wr v0.heap.size g c2 (filL k F)) := ⟨HQ.out, HR.out⟩
      clear HQ HR
      go_wp2
      go_ret
      exact ⟨⟨_, _, by rw [HE.out.1]; rfl, HE.out.2⟩, HB.out⟩
end Go.Proofs.Ytglfhajfbdjjcaa
