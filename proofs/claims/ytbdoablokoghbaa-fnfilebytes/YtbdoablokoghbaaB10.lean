/-
  FilesBytes of the model (written by tools/mkbys.py).
-/
import Derived.Test.YtbdoablokoghbaaB09
import Derived.Test.YtbdoablokoghbaaFileOkS
import Derived.Test.YtbdoablokoghbaaAnyH
import Derived.Test.YtbdoablokoghbaaRowFi
import Derived.Test.YtbdoablokoghbaaFileMk
import Derived.Test.YtbdoablokoghbaaB07
import Derived.Test.YtbdoablokoghbaaB08
namespace Go.Proofs.Ytbdoablokoghbaa
open Go.ChangeShapes Go.WideShapes Go.ChangeAt Go.RowKit
set_option linter.unusedVariables false
/-- The bytes L lie in block b from its head on. -/
def LitF (w : World) (b : Nat) (L : List Nat) : Prop := ∀ j (hj : j < L.length), w.cell? ⟨b, 0 + j, none⟩ = some (.int .u8 ((L[j] : Nat) : Int))
theorem LitF.keep {w w' : World} {b : Nat} {L : List Nat} (h : LitF w b L) (e : w'.heap[b]? = w.heap[b]?) : LitF w' b L := fun j hj => (World.cell?_of_block (w := w) (a := ⟨b, 0 + j, none⟩) e).trans (h j hj)
theorem LitF.below {w w' : World} {b : Nat} {L : List Nat} (h : LitF w b L) (hb : Below w.heap.size w w') (hl : b < w.heap.size) : LitF w' b L := h.keep (hb.block b hl)
theorem numEqUF {a b : Int} (h : a = b) : Value.int .u8 a = .int .u8 b := by rw [h]
theorem numL2F (x : Nat) : numL 2 x = [x / 256 % 256, x % 256] := by
  unfold numL numP
  simp [List.range, List.range.loop]
theorem litF_of {w : World} {b : Nat} {L : List Nat} {t : TypeId} {m : Nat} (F : Nat → Value) (h : w.rowIs b t m F) (hm : L.length ≤ m) (e : ∀ j (hj : j < L.length), F j = .int .u8 ((L[j] : Nat) : Int)) : LitF w b L := fun j hj => by
  rw [Nat.zero_add, World.rowIs.cell h (by omega), e j hj]
theorem l08TwoF (k : Nat) (hk : k ≤ 65535) (w : World) :
    Calls Try.prog 90 #[.int .i64 (k : Int)] w fun e w' => (e = .returned (.slice (some ⟨w.heap.size, 0, none⟩) 2 2) ∧ LitF w' w.heap.size (numL 2 k) ∧ w.heap.size < w'.heap.size) ∧ Below w.heap.size w w' := by
  go_enter Try.func90, Try.ntmps90
  go_wp2
  go_ret
  refine ⟨⟨rfl, litF_of _ (World.rowIs_alloc w #[.int .u8 ((k : Int) / 256), .int .u8 ((k : Int) % 256)] 5 (fun i => if i = 0 then .int .u8 ((k : Int) / 256) else .int .u8 ((k : Int) % 256)) (fun i hi => ?_)) (by rw [numL_length]; exact Nat.le_refl _) (fun j hj => ?_), by simp⟩, (Below.refl _ _).alloc (Nat.le_refl _) _⟩
  · have hi' : i < 2 := by simpa using hi
    rcases (show i = 0 ∨ i = 1 by omega) with rfl | rfl <;> rfl
  · rw [numL_length] at hj
    simp only [numL2F]
    rcases (show j = 0 ∨ j = 1 by omega) with rfl | rfl
    · exact numEqUF (by show (k : Int) / 256 = ((k / 256 % 256 : Nat) : Int); omega)
    · exact numEqUF (by show (k : Int) % 256 = ((k % 256 : Nat) : Int); omega)
theorem l01BitF (r : Bool) (w : World) : Calls Try.prog 89 #[.bool r] w fun e w' => e = .returned (.int .i64 ((bitN r : Nat) : Int)) ∧ w = w' := by
  cases r with
  | true =>
    go_enter Try.func89, Try.ntmps89
    go_wp2
    go_ret
    exact ⟨rfl, rfl⟩
  | false =>
    go_enter Try.func89, Try.ntmps89
    go_wp2
    go_ret
    exact ⟨rfl, rfl⟩
theorem StF.addL {v0 W : World} {rb g c q : Nat} {L : List Nat} {x : Fi} (h : StF v0 W rb g c q L x) (zb : Nat) (N : List Nat) (m : Nat) (hm : m = N.length) (hN : LitF W zb N) (hq : q + m ≤ 900000) (cq : Nat) :
    ∃ g' c' W', (∀ ty, (Builtin.append_ #[22, 22] ty #[.slice (some ⟨g, 0, none⟩) q c, .slice (some ⟨zb, 0, none⟩) m cq]).run Try.prog W = .ok (.slice (some ⟨g', 0, none⟩) (q + m) c') W') ∧ StF v0 W' rb g' c' (q + m) (L ++ N) x ∧ OnlyB g W W' ∧ (g' = g ∨ g' = W.heap.size) := by
  have hl := h.len
  subst hm
  obtain ⟨g3, c3, w3, hr3, hrow3, ho3, hg3⟩ := appL W v0.heap.size g c L N zb 0 cq 22 h.hb.size (by omega) h.row hN
  have el2 : (L ++ N).length = q + N.length := by rw [List.length_append, hl]
  rw [← hl, el2] at hr3
  have bl := h.box.lt
  refine ⟨g3, c3, w3, fun ty => hr3, ⟨hrow3, el2.symm, ?_, h.box.ofBlock (ho3.block _ bl h.ne.symm), h.hb.trans (ho3.toBelow h.row.ge.1 h.hb.size)⟩, ho3, hg3⟩
  rcases hg3 with e | e
  · rw [e]; exact h.ne
  · omega
set_option maxRecDepth 100000 in
set_option maxHeartbeats 8000000 in
theorem l11Bytes_any (a : Option Addr) (n c : Nat) (F : Nat → Fi) (hok : FsOk n F) (v0 : World) (h : Els v0 3 a n (fiF F)) :
    Calls Try.prog 58 #[.slice a n c] v0 fun e w' => (∃ g c, e = .returned (.slice (some ⟨g, 0, none⟩) (filL n F).length c) ∧ RL w' v0.heap.size g c (filL n F)) ∧ Below v0.heap.size v0 w' := by
  have HO : Hid (FsOk n F) := hok
  have hn := hok.1
  have y0 : (n : Int) % 256 = (n : Int) := by omega
  have RB : Hid (RL (v0.alloc (.cells #[.int .u8 ((n : Nat) : Int)] 5)) v0.heap.size v0.heap.size 1 [n]) := RL.made v0 _ [n] 1 rfl (by omega) rfl
  have BB : Hid (Below v0.heap.size v0 (v0.alloc (.cells #[.int .u8 ((n : Nat) : Int)] 5))) := (Below.refl _ _).alloc (Nat.le_refl _) _
  have V0 : Hid (Els v0 3 a n (fiF F)) := h
  clear hok h
  go_enter Try.func58, Try.ntmps58
  go_wp2
  generalize (v0.alloc (.cells #[.int .u8 ((n : Nat) : Int)] 5)) = v1 at *
  go_loopw [3, 4] (fun s i wr => ∃ k g c q : Nat, k ≤ n ∧ i = .int .i64 k ∧ s = .slice (some ⟨g, 0, none⟩) q c ∧ q = ([n] ++ flatF fiL F k).length ∧ RL wr v0.heap.size g c ([n] ++ flatF fiL F k) ∧ Below v0.heap.size v0 wr) (fun _ i _ => n - (intOf i).toNat)
  case atStart => exact ⟨0, v0.heap.size, 1, 1, by omega, rfl, rfl, rfl, by simpa [flatF] using RB.out, BB.out⟩
  case round =>
    clear RB BB
    obtain ⟨k, g, c2, q, hk, rfl, rfl, hq, hrow, hb⟩ := hrel
    have HR : Hid (RL wr v0.heap.size g c2 ([n] ++ flatF fiL F k)) := hrow
    have HB : Hid (Below v0.heap.size v0 wr) := hb
    have HQ : Hid (q = ([n] ++ flatF fiL F k).length) := hq
    have hql : q ≤ 1 + 12 * 244 := by
      have := flatF_le (n := k) (F := F) (fun i hi => (HO.out.2 i (by omega)).1)
      rw [List.length_append] at hq
      simp at hq
      omega
    clear hrow hb hq
    by_cases hlt : k < n
    · have hlt' : (k : Int) < (n : Int) := by omega
      obtain ⟨b, off, rfl, hc⟩ := (V0.out.below HB.out).opened (by omega)
      obtain ⟨c0, c1, c2'⟩ := Els.fiC hc k hlt
      have hfo := (HO.out.2 k hlt).1
      have hps := hfo.1.1
      have hts := hfo.2.1
      have EF : Hid (flatF fiL F (k + 1) = flatF fiL F k ++ fiL (F k)) := rfl
      obtain ⟨v2, hv2⟩ : ∃ v2, v2 = wr.alloc (.cells #[.string (F k).p, .bool (F k).d, .string (F k).t] 37) := ⟨_, rfl⟩
      have hbr : Below wr.heap.size wr v2 := by rw [hv2]; exact (Below.refl _ _).alloc (Nat.le_refl _) _
      have S2 : Hid (StF v0 v2 wr.heap.size g c2 q ([n] ++ flatF fiL F k) (F k)) := ⟨HR.out.below hbr, HQ.out, by have := HR.out.ge; omega, by rw [hv2]; exact Box3.made _ _ _ _ _, HB.out.trans (hbr.mono HB.out.size)⟩
      have HV2 : Hid (wr.alloc (.cells #[.string (F k).p, .bool (F k).d, .string (F k).t] 37) = v2) := hv2.symm
      have EL : Hid ([n] ++ flatF fiL F k ++ [(F k).p.size] ++ strL (F k).p ++ [bitN (F k).d] ++ numL 2 (F k).t.size ++ strL (F k).t = [n] ++ flatF fiL F (k + 1)) := by
        show _ = _
        rw [EF.out]
        unfold fiL
        simp only [List.append_assoc]
      have hp256 : ((F k).p.size : Int) % 256 = ((F k).p.size : Int) := by omega
      have hpw : IntKind.u8.wrap ((F k).p.size : Int) = ((F k).p.size : Int) := IntWalk.u8_in _ (by omega)
      generalize [n] ++ flatF fiL F k = L at *
      generalize F k = y at *
      have BIT : Hid (∀ w : World, Calls Try.prog 89 #[.bool y.d] w fun e w' => e = .returned (.int .i64 ((bitN y.d : Nat) : Int)) ∧ w = w') := l01BitF y.d
      have hb1 : bitN y.d ≤ 1 := by unfold bitN; split <;> omega
      have hbw : IntKind.u8.wrap ((bitN y.d : Nat) : Int) = ((bitN y.d : Nat) : Int) := IntWalk.u8_in _ (by omega)
      have hb256 : ((bitN y.d : Nat) : Int) % 256 = ((bitN y.d : Nat) : Int) := by omega
      have TWO : Hid (∀ w : World, Calls Try.prog 90 #[.int .i64 (y.t.size : Int)] w fun e w' => (e = .returned (.slice (some ⟨w.heap.size, 0, none⟩) 2 2) ∧ LitF w' w.heap.size (numL 2 y.t.size) ∧ w.heap.size < w'.heap.size) ∧ Below w.heap.size w w') := fun w => l08TwoF y.t.size (by omega) w
      clear hfo hc hbr hv2 EF HQ HR HB
      go_upto_region 6 with fail
      rw [HV2.out]
      clear c0 c1 c2' HV2
      generalize wr.heap.size = rb at *
      have S20 : Hid (StF v0 v2.drew rb g c2 q L y) := S2.out.below ((Below.refl _ _).drew)
      have H : Box3 v2.drew rb 37 (.string y.p) (.bool y.d) (.string y.t) := S20.out.box
      refine wp_region_noPanic ?_
      refine wp_region_held_drew (S := fun w' => Box3 w' rb 37 (.string y.p) (.bool y.d) (.string y.t)) (by kernel_rfl) H (fun _ => ?_)
      generalize v2.drew = x0 at *
      refine wpAnyH_take (i := 0) (v := .slice (some ⟨g, 0, none⟩) q c2) rfl (by kernel_rfl) (by kernel_rfl) (by kernel_rfl) (fun _ _ _ h => h) (Or.inl ⟨by rfl, ?_⟩) H ?_
      · intro w' hSw; clear hSw; go_simp
      change wpAnyH _ _ _ _ _ _ _ { tmps := #[_, _, _, _, _, _, _, _, _, _, _, _, _, _, _, _, _, _, _, _, _, _, _, _, _, _, _, _, _, _, _, _, _, _, _, _, _, _, _, _, _, _, _, _, _, _, _], defers := _ } _
      refine wpAnyH_take (i := 1) (v := .pointer (some ⟨rb, 0, none⟩)) rfl (by kernel_rfl) (by kernel_rfl) (by kernel_rfl) (fun _ _ _ h => h) (Or.inl ⟨by rfl, ?_⟩) H ?_
      · intro w' hSw; clear hSw; go_simp
      change wpAnyH _ _ _ _ _ _ _ { tmps := #[_, _, _, _, _, _, _, _, _, _, _, _, _, _, _, _, _, _, _, _, _, _, _, _, _, _, _, _, _, _, _, _, _, _, _, _, _, _, _, _, _, _, _, _, _, _, _], defers := _ } _
      refine wpAnyH_take (i := 2) (v := .string y.p) rfl (by kernel_rfl) (by kernel_rfl) (by kernel_rfl) (fun _ _ _ h => h) (Or.inl ⟨by rfl, ?_⟩) H ?_
      · intro w' hSw; have t0 := hSw.c0; clear hSw; go_simp
      change wpAnyH _ _ _ _ _ _ _ { tmps := #[_, _, _, _, _, _, _, _, _, _, _, _, _, _, _, _, _, _, _, _, _, _, _, _, _, _, _, _, _, _, _, _, _, _, _, _, _, _, _, _, _, _, _, _, _, _, _], defers := _ } _
      refine wpAnyH_take (i := 3) (v := .int .i64 (y.p.size : Int)) rfl (by kernel_rfl) (by kernel_rfl) (by kernel_rfl) (fun _ _ _ h => h) (Or.inl ⟨by rfl, ?_⟩) H ?_
      · intro w' hSw; clear hSw; go_simp
      change wpAnyH _ _ _ _ _ _ _ { tmps := #[_, _, _, _, _, _, _, _, _, _, _, _, _, _, _, _, _, _, _, _, _, _, _, _, _, _, _, _, _, _, _, _, _, _, _, _, _, _, _, _, _, _, _, _, _, _, _], defers := _ } _
      refine wpAnyH_take (i := 4) (v := .int .u8 (y.p.size : Int)) rfl (by kernel_rfl) (by kernel_rfl) (by kernel_rfl) (fun _ _ _ h => h) (Or.inl ⟨by rfl, ?_⟩) H ?_
      · intro w' hSw; clear hSw; go_simp
      change wpAnyH _ _ _ _ _ _ _ { tmps := #[_, _, _, _, _, _, _, _, _, _, _, _, _, _, _, _, _, _, _, _, _, _, _, _, _, _, _, _, _, _, _, _, _, _, _, _, _, _, _, _, _, _, _, _, _, _, _], defers := _ } _
      refine wpAnyH_take (i := 7) (v := .pointer (some ⟨rb, 0, none⟩)) rfl (by kernel_rfl) (by kernel_rfl) (by kernel_rfl) (fun _ _ _ h => h) (Or.inl ⟨by rfl, ?_⟩) H ?_
      · intro w' hSw; clear hSw; go_simp
      change wpAnyH _ _ _ _ _ _ _ { tmps := #[_, _, _, _, _, _, _, _, _, _, _, _, _, _, _, _, _, _, _, _, _, _, _, _, _, _, _, _, _, _, _, _, _, _, _, _, _, _, _, _, _, _, _, _, _, _, _], defers := _ } _
      refine wpAnyH_take (i := 8) (v := .string y.p) rfl (by kernel_rfl) (by kernel_rfl) (by kernel_rfl) (fun _ _ _ h => h) (Or.inl ⟨by rfl, ?_⟩) H ?_
      · intro w' hSw; have t0 := hSw.c0; clear hSw; go_simp
      change wpAnyH _ _ _ _ _ _ _ { tmps := #[_, _, _, _, _, _, _, _, _, _, _, _, _, _, _, _, _, _, _, _, _, _, _, _, _, _, _, _, _, _, _, _, _, _, _, _, _, _, _, _, _, _, _, _, _, _, _], defers := _ } _
      obtain ⟨g3, c3, v3, r3, s3⟩ := S20.out.add1 y.p.size (by omega)
      have S3 : Hid (StF v0 v3 rb g3 c3 (q + 1) (L ++ [y.p.size]) y) := s3
      obtain ⟨g4, c4, v4, r4, s4⟩ := S3.out.addT y.p (by omega)
      have S4 : Hid (StF v0 v4 rb g4 c4 (q + 1 + y.p.size) (L ++ [y.p.size] ++ strL y.p) y) := s4
      have H1 : Box3 (x0.alloc (.cells #[.int .u8 ((y.p.size : Nat) : Int)] 5)) rb 37 (.string y.p) (.bool y.d) (.string y.t) := S20.out.box.alloc _
      have H2 : Box3 v3 rb 37 (.string y.p) (.bool y.d) (.string y.t) := S3.out.box
      have H3 : Box3 v4 rb 37 (.string y.p) (.bool y.d) (.string y.t) := S4.out.box
      clear s3 s4
      refine wpAnyH_ready (rs := [5]) (by kernel_rfl) (by simp) ?_
      refine AllReadyH.cons rfl (fun KK hK => ?_) AllReadyH.nil
      go_simp
      refine hK.out _ _ H1 (fun _ => ?_)
      clear hK KK
      change wpAnyH _ _ _ _ _ _ _ { tmps := #[_, _, _, _, _, _, _, _, _, _, _, _, _, _, _, _, _, _, _, _, _, _, _, _, _, _, _, _, _, _, _, _, _, _, _, _, _, _, _, _, _, _, _, _, _, _, _], defers := _ } _
      refine wpAnyH_ready (rs := [6]) (by kernel_rfl) (by simp) ?_
      refine AllReadyH.cons rfl (fun KK hK => ?_) AllReadyH.nil
      rw [if_pos (by rfl)]
      refine Lib.wp_append_run _ (.tmp 20) (.tmp 25) 22 22 rfl (.slice (some ⟨g, 0, none⟩) q c2) (.slice (some ⟨x0.heap.size, 0, none⟩) 1 1) rfl rfl _ _ (r3 _) ?_
      refine hK.out _ _ H2 (fun _ => ?_)
      clear hK KK
      change wpAnyH _ _ _ _ _ _ _ { tmps := #[_, _, _, _, _, _, _, _, _, _, _, _, _, _, _, _, _, _, _, _, _, _, _, _, _, _, _, _, _, _, _, _, _, _, _, _, _, _, _, _, _, _, _, _, _, _, _], defers := _ } _
      refine wpAnyH_ready (rs := [9]) (by kernel_rfl) (by simp) ?_
      refine AllReadyH.cons rfl (fun KK hK => ?_) AllReadyH.nil
      rw [if_pos (by rfl)]
      refine Lib.wp_append_run _ (.tmp 26) (.tmp 28) 22 9 rfl (.slice (some ⟨g3, 0, none⟩) (q + 1) c3) (.string y.p) rfl rfl _ _ (r4 _) ?_
      refine hK.out _ _ H3 (fun _ => ?_)
      clear hK KK
      change wpAnyH _ _ _ _ _ _ _ { tmps := #[_, _, _, _, _, _, _, _, _, _, _, _, _, _, _, _, _, _, _, _, _, _, _, _, _, _, _, _, _, _, _, _, _, _, _, _, _, _, _, _, _, _, _, _, _, _, _], defers := _ } _
      refine wpAnyH_take (i := 10) (v := .slice (some ⟨g4, 0, none⟩) (q + 1 + y.p.size) c4) rfl (by kernel_rfl) (by kernel_rfl) (by kernel_rfl) (fun _ _ _ h => h) (Or.inl ⟨by rfl, ?_⟩) H3 ?_
      · intro w' hSw; clear hSw; go_simp
      change wpAnyH _ _ _ _ _ _ _ { tmps := #[_, _, _, _, _, _, _, _, _, _, _, _, _, _, _, _, _, _, _, _, _, _, _, _, _, _, _, _, _, _, _, _, _, _, _, _, _, _, _, _, _, _, _, _, _, _, _], defers := _ } _
      refine wpAnyH_done (by kernel_rfl) ?_ _
      refine NoPanic.normal ?_
      clear r3 r4 H H1 H2 H3 S2 S20 S3
      go_wp2_with fail
      have S40 : Hid (StF v0 v4.drew rb g4 c4 (q + 1 + y.p.size) (L ++ [y.p.size] ++ strL y.p) y) := S4.out.below ((Below.refl _ _).drew)
      have H : Box3 v4.drew rb 37 (.string y.p) (.bool y.d) (.string y.t) := S40.out.box
      refine wp_region_noPanic ?_
      refine wp_region_held_drew (S := fun w' => Box3 w' rb 37 (.string y.p) (.bool y.d) (.string y.t)) (by kernel_rfl) H (fun _ => ?_)
      generalize v4.drew = z0 at *
      refine wpAnyH_take (i := 0) (v := .slice (some ⟨g4, 0, none⟩) (q + 1 + y.p.size) c4) rfl (by kernel_rfl) (by kernel_rfl) (by kernel_rfl) (fun _ _ _ h => h) (Or.inl ⟨by rfl, ?_⟩) H ?_
      · intro w' hSw; clear hSw; go_simp
      change wpAnyH _ _ _ _ _ _ _ { tmps := #[_, _, _, _, _, _, _, _, _, _, _, _, _, _, _, _, _, _, _, _, _, _, _, _, _, _, _, _, _, _, _, _, _, _, _, _, _, _, _, _, _, _, _, _, _, _, _], defers := _ } _
      refine wpAnyH_take (i := 1) (v := .pointer (some ⟨rb, 1, none⟩)) rfl (by kernel_rfl) (by kernel_rfl) (by kernel_rfl) (fun _ _ _ h => h) (Or.inl ⟨by rfl, ?_⟩) H ?_
      · intro w' hSw; clear hSw; go_simp
      change wpAnyH _ _ _ _ _ _ _ { tmps := #[_, _, _, _, _, _, _, _, _, _, _, _, _, _, _, _, _, _, _, _, _, _, _, _, _, _, _, _, _, _, _, _, _, _, _, _, _, _, _, _, _, _, _, _, _, _, _], defers := _ } _
      refine wpAnyH_take (i := 2) (v := .bool y.d) rfl (by kernel_rfl) (by kernel_rfl) (by kernel_rfl) (fun _ _ _ h => h) (Or.inl ⟨by rfl, ?_⟩) H ?_
      · intro w' hSw; have t0 := hSw.c1; clear hSw; go_simp
      change wpAnyH _ _ _ _ _ _ _ { tmps := #[_, _, _, _, _, _, _, _, _, _, _, _, _, _, _, _, _, _, _, _, _, _, _, _, _, _, _, _, _, _, _, _, _, _, _, _, _, _, _, _, _, _, _, _, _, _, _], defers := _ } _
      refine wpAnyH_take (i := 7) (v := .pointer (some ⟨rb, 2, none⟩)) rfl (by kernel_rfl) (by kernel_rfl) (by kernel_rfl) (fun _ _ _ h => h) (Or.inl ⟨by rfl, ?_⟩) H ?_
      · intro w' hSw; clear hSw; go_simp
      change wpAnyH _ _ _ _ _ _ _ { tmps := #[_, _, _, _, _, _, _, _, _, _, _, _, _, _, _, _, _, _, _, _, _, _, _, _, _, _, _, _, _, _, _, _, _, _, _, _, _, _, _, _, _, _, _, _, _, _, _], defers := _ } _
      refine wpAnyH_take (i := 8) (v := .string y.t) rfl (by kernel_rfl) (by kernel_rfl) (by kernel_rfl) (fun _ _ _ h => h) (Or.inl ⟨by rfl, ?_⟩) H ?_
      · intro w' hSw; have t0 := hSw.c2; clear hSw; go_simp
      change wpAnyH _ _ _ _ _ _ _ { tmps := #[_, _, _, _, _, _, _, _, _, _, _, _, _, _, _, _, _, _, _, _, _, _, _, _, _, _, _, _, _, _, _, _, _, _, _, _, _, _, _, _, _, _, _, _, _, _, _], defers := _ } _
      refine wpAnyH_take (i := 9) (v := .int .i64 (y.t.size : Int)) rfl (by kernel_rfl) (by kernel_rfl) (by kernel_rfl) (fun _ _ _ h => h) (Or.inl ⟨by rfl, ?_⟩) H ?_
      · intro w' hSw; clear hSw; go_simp
      change wpAnyH _ _ _ _ _ _ _ { tmps := #[_, _, _, _, _, _, _, _, _, _, _, _, _, _, _, _, _, _, _, _, _, _, _, _, _, _, _, _, _, _, _, _, _, _, _, _, _, _, _, _, _, _, _, _, _, _, _], defers := _ } _
      have SF : Hid (StF v0 z0 rb g4 c4 (q + 1 + y.p.size) (L ++ [y.p.size] ++ strL y.p) y) := S40
      clear S4 S40
      refine wpAnyH_ready (rs := [3]) (by kernel_rfl) (by simp) ?_
      refine (AllReadyH.cons rfl (fun KK hK => ?_) AllReadyH.nil)
      go_simp
      refine (BIT.out _).mono ?_
      rintro e z1 ⟨rfl, hw⟩
      cases hw
      refine hK.out _ _ H (fun _ => ?_)
      clear hK KK
      change wpAnyH _ _ _ _ _ _ _ { tmps := #[_, _, _, _, _, _, _, _, _, _, _, _, _, _, _, _, _, _, _, _, _, _, _, _, _, _, _, _, _, _, _, _, _, _, _, _, _, _, _, _, _, _, _, _, _, _, _], defers := _ } _
      refine wpAnyH_take (i := 4) (v := .int .u8 ((bitN y.d : Nat) : Int)) rfl (by kernel_rfl) (by kernel_rfl) (by kernel_rfl) (fun _ _ _ h => h) (Or.inl ⟨by rfl, ?_⟩) H ?_
      · intro w' hSw; clear hSw; go_simp
      change wpAnyH _ _ _ _ _ _ _ { tmps := #[_, _, _, _, _, _, _, _, _, _, _, _, _, _, _, _, _, _, _, _, _, _, _, _, _, _, _, _, _, _, _, _, _, _, _, _, _, _, _, _, _, _, _, _, _, _, _], defers := _ } _
      refine wpAnyH_ready (rs := [5]) (by kernel_rfl) (by simp) ?_
      refine (AllReadyH.cons rfl (fun KK hK => ?_) AllReadyH.nil)
      go_simp
      have hb : Below z0.heap.size z0 (z0.alloc (.cells #[.int .u8 ((bitN y.d : Nat) : Int)] 5)) := (Below.refl _ _).alloc (Nat.le_refl _) _
      replace SF : Hid (StF v0 (z0.alloc (.cells #[.int .u8 ((bitN y.d : Nat) : Int)] 5)) rb g4 c4 (q + 1 + y.p.size) (L ++ [y.p.size] ++ strL y.p) y) := SF.out.below hb
      have ZT : Hid (LitF (z0.alloc (.cells #[.int .u8 ((bitN y.d : Nat) : Int)] 5)) z0.heap.size [bitN y.d] ∧ z0.heap.size < (z0.alloc (.cells #[.int .u8 ((bitN y.d : Nat) : Int)] 5)).heap.size) := ⟨lit1F z0 _, by simp⟩
      replace H : Box3 (z0.alloc (.cells #[.int .u8 ((bitN y.d : Nat) : Int)] 5)) rb 37 (.string y.p) (.bool y.d) (.string y.t) := SF.out.box
      clear hb
      refine hK.out _ _ H (fun _ => ?_)
      clear hK KK
      generalize (z0.alloc (.cells #[.int .u8 ((bitN y.d : Nat) : Int)] 5)) = z2 at *
      generalize z0.heap.size = zb at *
      change wpAnyH _ _ _ _ _ _ _ { tmps := #[_, _, _, _, _, _, _, _, _, _, _, _, _, _, _, _, _, _, _, _, _, _, _, _, _, _, _, _, _, _, _, _, _, _, _, _, _, _, _, _, _, _, _, _, _, _, _], defers := _ } _
      refine wpAnyH_ready (rs := [6]) (by kernel_rfl) (by simp) ?_
      refine (AllReadyH.cons rfl (fun KK hK => ?_) AllReadyH.nil)
      obtain ⟨ga3, ca3, z3, rr, sf, oo, gg⟩ := SF.out.addL zb [bitN y.d] 1 rfl ZT.out.1 (by omega) 1
      replace SF : Hid (StF v0 z3 rb ga3 ca3 (q + 1 + y.p.size + 1) (L ++ [y.p.size] ++ strL y.p ++ [bitN y.d]) y) := sf
      rw [if_pos (by rfl)]
      refine Lib.wp_append_run _ (.tmp 30) (.tmp 35) 22 22 rfl (.slice (some ⟨g4, 0, none⟩) (q + 1 + y.p.size) c4) (.slice (some ⟨zb, 0, none⟩) 1 1) rfl rfl _ _ (rr _) ?_
      replace H : Box3 z3 rb 37 (.string y.p) (.bool y.d) (.string y.t) := SF.out.box
      refine hK.out _ _ H (fun _ => ?_)
      clear hK KK rr sf oo gg ZT
      change wpAnyH _ _ _ _ _ _ _ { tmps := #[_, _, _, _, _, _, _, _, _, _, _, _, _, _, _, _, _, _, _, _, _, _, _, _, _, _, _, _, _, _, _, _, _, _, _, _, _, _, _, _, _, _, _, _, _, _, _], defers := _ } _
      refine wpAnyH_ready (rs := [10]) (by kernel_rfl) (by simp) ?_
      refine (AllReadyH.cons rfl (fun KK hK => ?_) AllReadyH.nil)
      go_simp
      refine (TWO.out _).mono ?_
      rintro e z4 ⟨⟨rfl, hlit, hlt2⟩, hb⟩
      have gl := SF.out.row.ge
      have LT : Hid (LitF z4 z3.heap.size (numL 2 y.t.size) ∧ z3.heap.size < z4.heap.size ∧ z3.heap.size ≠ ga3) := ⟨hlit, hlt2, by omega⟩
      replace SF : Hid (StF v0 z4 rb ga3 ca3 (q + 1 + y.p.size + 1) (L ++ [y.p.size] ++ strL y.p ++ [bitN y.d]) y) := SF.out.below hb
      replace H : Box3 z4 rb 37 (.string y.p) (.bool y.d) (.string y.t) := SF.out.box
      clear hb hlit hlt2 gl
      generalize z3.heap.size = tb at *
      refine hK.out _ _ H (fun _ => ?_)
      clear hK KK
      change wpAnyH _ _ _ _ _ _ _ { tmps := #[_, _, _, _, _, _, _, _, _, _, _, _, _, _, _, _, _, _, _, _, _, _, _, _, _, _, _, _, _, _, _, _, _, _, _, _, _, _, _, _, _, _, _, _, _, _, _], defers := _ } _
      refine wpAnyH_ready (rs := [11]) (by kernel_rfl) (by simp) ?_
      refine (AllReadyH.cons rfl (fun KK hK => ?_) AllReadyH.nil)
      obtain ⟨ga5, ca5, z5, rr, sf, oo, gg⟩ := SF.out.addL tb (numL 2 y.t.size) 2 (numL_length 2 _).symm LT.out.1 (by omega) 2
      replace SF : Hid (StF v0 z5 rb ga5 ca5 (q + 1 + y.p.size + 1 + 2) (L ++ [y.p.size] ++ strL y.p ++ [bitN y.d] ++ numL 2 y.t.size) y) := sf
      rw [if_pos (by rfl)]
      refine Lib.wp_append_run _ (.tmp 36) (.tmp 40) 22 22 rfl (.slice (some ⟨ga3, 0, none⟩) (q + 1 + y.p.size + 1) ca3) (.slice (some ⟨tb, 0, none⟩) 2 2) rfl rfl _ _ (rr _) ?_
      replace H : Box3 z5 rb 37 (.string y.p) (.bool y.d) (.string y.t) := SF.out.box
      refine hK.out _ _ H (fun _ => ?_)
      clear hK KK rr sf oo gg LT
      change wpAnyH _ _ _ _ _ _ _ { tmps := #[_, _, _, _, _, _, _, _, _, _, _, _, _, _, _, _, _, _, _, _, _, _, _, _, _, _, _, _, _, _, _, _, _, _, _, _, _, _, _, _, _, _, _, _, _, _, _], defers := _ } _
      refine wpAnyH_take (i := 12) (v := .slice (some ⟨ga5, 0, none⟩) (q + 1 + y.p.size + 1 + 2) ca5) rfl (by kernel_rfl) (by kernel_rfl) (by kernel_rfl) (fun _ _ _ h => h) (Or.inl ⟨by rfl, ?_⟩) H ?_
      · intro w' hSw; clear hSw; go_simp
      change wpAnyH _ _ _ _ _ _ _ { tmps := #[_, _, _, _, _, _, _, _, _, _, _, _, _, _, _, _, _, _, _, _, _, _, _, _, _, _, _, _, _, _, _, _, _, _, _, _, _, _, _, _, _, _, _, _, _, _, _], defers := _ } _
      refine wpAnyH_done (by kernel_rfl) ?_ _
      refine NoPanic.normal ?_
      obtain ⟨g7, c7, v7, r7, s7⟩ := SF.out.addT y.t (by omega)
      rw [EL.out] at s7
      have S7 : Hid (StF v0 v7 rb g7 c7 ((q + 1 + y.p.size + 1) + 2 + y.t.size) ([n] ++ flatF fiL F (k + 1)) y) := s7
      have x2 := SF.out.box.c2
      clear s7 SF H
      go_wp2_with (at_builtin; refine Lib.wpList_append_run _ rfl (.tmp 42) (.tmp 44) 22 9 rfl (.slice (some ⟨ga5, 0, none⟩) (q + 1 + y.p.size + 1 + 2) ca5) (.string y.t) rfl rfl _ _ (r7 _) ?_)
      go_roundw
      case rel => exact ⟨k + 1, g7, c7, _, by omega, by go_num, rfl, S7.out.len, S7.out.row, S7.out.hb⟩
      case measure => simp [intOf]; omega
    · obtain rfl : k = n := by omega
      have hlt' : ¬ (k : Int) < (k : Int) := by omega
      have HE : Hid (q = (filL k F).length ∧ RL wr v0.heap.size g c2 (filL k F)) := ⟨HQ.out, HR.out⟩
      clear HQ HR
      go_wp2
      go_ret
      exact ⟨⟨_, _, by rw [HE.out.1]; rfl, HE.out.2⟩, HB.out⟩
set_option maxRecDepth 100000 in
set_option maxHeartbeats 1000000 in
theorem specBy_any (a : Option Addr) (n c : Nat) (F : Nat → Fi) (hsz : ∀ i, i < n → (F i).p.size ≤ 1048576) (hnn : n ≤ 1048576) (w : World) (h : Els w 3 a n (fiF F)) :
    Calls Try.prog 26 #[.slice a n c] w fun e w' => (∃ L cd, ByIs n F L cd ∧ RetBy L cd w.heap.size e w') ∧ Below w.heap.size w w' := by
  by_cases h0 : 4096 < n
  · have g0 : (4096 : Int) < (n : Int) := by omega
    have HX : Hid (ByIs n F [] 2) := .inl ⟨h0, rfl, rfl⟩
    clear h hsz h0
    go_enter Try.func26, Try.ntmps26
    go_wp2
    go_ret2
    exact ⟨⟨_, _, HX.out, .inl ⟨rfl, _, rfl⟩⟩, (Below.refl _ _).alloc (Nat.le_refl _) _⟩
  · have g0 : ¬ (4096 : Int) < (n : Int) := by omega
    have FO : Hid (Calls Try.prog 57 #[.slice a n c] w fun e w' => Says e (FsOk n F) ∧ Below w.heap.size w w') := specFilesOK_any a n c F hsz hnn w h
    have H : Hid (Els w 3 a n (fiF F)) := h
    clear h hsz
    go_enter Try.func26, Try.ntmps26
    go_wp2_with fail
    refine (Calls.mono FO.out) ?_
    rintro e v1 ⟨⟨y, rfl, hy⟩, hb⟩
    have B1 : Hid (Below w.heap.size w v1) := hb
    have HY : Hid (y = true ↔ FsOk n F) := hy
    clear hb hy FO
    cases y with
    | false =>
      have HX : Hid (ByIs n F [] 1) := .inr ⟨h0, .inl ⟨(fun q => by have := HY.out.2 q; cases this), rfl, rfl⟩⟩
      clear HY
      go_wp2
      go_ret2
      exact ⟨⟨_, _, HX.out, .inl ⟨rfl, _, rfl⟩⟩, B1.out.alloc B1.out.size _⟩
    | true =>
      have HF : Hid (FsOk n F) := HY.out.1 rfl
      have HX : Hid (ByIs n F (filL n F) 0) := .inr ⟨h0, .inr ⟨HF.out, rfl, rfl⟩⟩
      have BY : Hid (Calls Try.prog 58 #[.slice a n c] v1 fun e w' => (∃ g c, e = .returned (.slice (some ⟨g, 0, none⟩) (filL n F).length c) ∧ RL w' v1.heap.size g c (filL n F)) ∧ Below v1.heap.size v1 w') := l11Bytes_any a n c F HF.out v1 (H.out.below B1.out)
      clear HY
      generalize filL n F = LL at *
      go_wp2_with fail
      refine (Calls.mono BY.out) ?_
      rintro e v2 ⟨⟨g, c9, rfl, hr⟩, hb⟩
      have HR : Hid (RL v2 w.heap.size g c9 LL) := hr.mono B1.out.size
      have B2 : Hid (Below w.heap.size w v2) := B1.out.trans (hb.mono B1.out.size)
      clear hr hb BY
      go_wp2
      go_ret2
      exact ⟨⟨_, _, HX.out, .inr ⟨_, _, rfl, HR.out⟩⟩, B2.out⟩
end Go.Proofs.Ytbdoablokoghbaa

/-
  ReadFiles of the program.
-/
namespace Go.Proofs.Ytbdoablokoghbaa
open Go.ChangeShapes Go.WideShapes Go.ChangeAt Go.RowKit
set_option linter.unusedVariables false
theorem convAny {w : World} {a : Option Addr} {n c : Nat} {f : Nat → Nat} (h : Code8 w a n f) : (convert 22 9 (.slice a n c)).run Try.prog w = .ok (.string (kstr f 0 n)) w := by
  rcases Nat.eq_zero_or_pos n with rfl | h0
  · exact convNone a c w
  · obtain ⟨b, o, rfl, _⟩ := h.opened h0
    exact kstr_of_code h
set_option maxRecDepth 100000 in
theorem bytesEq_any (a1 a2 : Option Addr) (n1 c1 n2 c2 : Nat) (f1 f2 : Nat → Nat) (w : World) (h1 : Code8 w a1 n1 f1) (h2 : Code8 w a2 n2 f2) :
    Calls Try.prog 61 #[.slice a1 n1 c1, .slice a2 n2 c2] w fun e w' => Says e (kstr f1 0 n1 = kstr f2 0 n2) ∧ w = w' := by
  have k1 := convAny (c := c1) h1
  have k2 := convAny (c := c2) h2
  clear h1 h2
  generalize kstr f1 0 n1 = s1 at *
  generalize kstr f2 0 n2 = s2 at *
  by_cases e : s1 = s2
  · subst e
    have r : (s1.toList == s1.toList) = true := by simp
    go_enter Try.func61, Try.ntmps61
    go_wp2
    go_ret
    exact ⟨⟨true, rfl, by simp⟩, rfl⟩
  · have r := textNe e
    have HE : Hid (¬ s1 = s2) := e
    clear e
    go_enter Try.func61, Try.ntmps61
    go_wp2
    go_ret
    exact ⟨⟨false, rfl, by simp [HE.out]⟩, rfl⟩
theorem strL_lt (s : ByteArray) : ∀ x ∈ strL s, x < 256 := fun x hx => by
  unfold strL at hx
  obtain ⟨b, _, rfl⟩ := List.mem_map.1 hx
  exact b.toNat_lt
theorem numP_lt (sz x : Nat) : ∀ k, ∀ y ∈ numP sz x k, y < 256 := fun k y hy => by
  unfold numP at hy
  obtain ⟨j, _, rfl⟩ := List.mem_map.1 hy
  exact Nat.mod_lt _ (by omega)
theorem filL_lt {n : Nat} {F : Nat → Fi} (h : FsOk n F) : ∀ x ∈ filL n F, x < 256 := by
  have h1 : ∀ k, k ≤ n → ∀ x ∈ flatF fiL F k, x < 256 := by
    intro k
    induction k with
    | zero => intro _ x hx; cases hx
    | succ k ih =>
      intro hk x hx
      rcases List.mem_append.1 hx with q | q
      · exact ih (by omega) x q
      · have ho := (h.2 k (by omega)).1
        unfold fiL at q
        simp only [List.mem_append, List.mem_singleton] at q
        rcases q with (((q | q) | q) | q) | q
        · have := ho.1.1; omega
        · exact strL_lt _ x q
        · rw [q]; unfold bitN; split <;> omega
        · exact numP_lt _ _ _ x q
        · exact strL_lt _ x q
  intro x hx
  unfold filL at hx
  rcases List.mem_append.1 hx with q | q
  · have := h.1; simp at q; omega
  · exact h1 n (Nat.le_refl _) x q
theorem kstr_list {L : List Nat} {N : Nat} {f : Nat → Nat} (hL : ∀ x ∈ L, x < 256) (hf : ∀ i, f i < 256) : kstr (fun i => L.getD i 0) 0 L.length = kstr f 0 N ↔ L = byL N f := by
  constructor
  · intro e
    have hz : L.length = N := by have := congrArg ByteArray.size e; rwa [kstr_size, kstr_size] at this
    subst hz
    refine List.ext_getElem (byL_length _ _).symm (fun i h1 h2 => ?_)
    have h3 : strB (kstr (fun i => L.getD i 0) 0 L.length) i = strB (kstr f 0 L.length) i := by rw [e]
    have h4 : L[i] < 256 := hL _ (List.getElem_mem _)
    rw [strB_kstr _ _ _ _ (by simp [h1, h4]) h1, strB_kstr _ _ _ _ (hf _) h1] at h3
    have h5 : (byL L.length f)[i]'(by rw [byL_length]; exact h1) = f i := by unfold byL; simp
    rw [h5]
    simpa [h1] using h3
  · intro e
    have hz : L.length = N := by rw [e, byL_length]
    subst hz
    refine kstr_congr (fun i hi => ?_)
    have : L[i] = f i := by
      have h5 : (byL L.length f)[i]'(by rw [byL_length]; exact hi) = f i := by unfold byL; simp
      rw [← h5]
      exact List.getElem_of_eq e hi
    simp [hi, this]
theorem code_of_RL {w : World} {B g c : Nat} {L : List Nat} (h : RL w B g c L) : Code8 w (some ⟨g, 0, none⟩) L.length (fun i => L.getD i 0) := fun i hi => ⟨g, 0, rfl, by
  rw [Nat.zero_add, h.cell i hi]
  simp [hi]⟩
theorem fi_more {w u : World} {q k lc N : Nat} {la : Option Addr} {G : Nat → Fi} {f : Nat → Nat} {p : Option Nat} (x : Fi) (E : EO u (q + 1) 37 3 (.slice la k lc) k (fiF G)) (R : Rdz u q q N f p) (B : Below w.heap.size w u) (hq : q < u.heap.size) (hw : w.heap.size ≤ q) (hk : k ≤ 1000) :
    ∃ la' lc' w', (∀ ty, (Builtin.append_ #[23, 23] ty #[.slice la k lc, .slice (some ⟨u.heap.size + 1, 0, none⟩) 1 1]).run Try.prog ((u.alloc (.cells #[.string x.p, .bool x.d, .string x.t] 37)).alloc (.cells #[.string x.p, .bool x.d, .string x.t] 37)) = .ok (.slice la' (k + 1) lc') w') ∧ EO w' (q + 1) 37 3 (.slice la' (k + 1) lc') (k + 1) (fiF (updE G k x)) ∧ Rdz w' q q N f p ∧ Below w.heap.size w w' ∧ q < w'.heap.size := by
  have hb2 : Below u.heap.size u ((u.alloc (.cells #[.string x.p, .bool x.d, .string x.t] 37)).alloc (.cells #[.string x.p, .bool x.d, .string x.t] 37)) := ((Below.refl u.heap.size u).alloc (Nat.le_refl _) _).alloc (by simp) _
  have XB : Box3 ((u.alloc (.cells #[.string x.p, .bool x.d, .string x.t] 37)).alloc (.cells #[.string x.p, .bool x.d, .string x.t] 37)) (u.heap.size + 1) 37 (.string x.p) (.bool x.d) (.string x.t) := Box3.madeAt (by simp) _ _ _ _
  obtain ⟨v', w', hr, hE, hg, hloc⟩ := appFi ((u.alloc (.cells #[.string x.p, .bool x.d, .string x.t] 37)).alloc (.cells #[.string x.p, .bool x.d, .string x.t] 37)) (q + 1) (.slice la k lc) k (u.heap.size + 1) G x (by simp; omega) (by omega) (E.below hb2) (fun j hj => by
    rcases (show j = 0 ∨ j = 1 ∨ j = 2 by omega) with rfl | rfl | rfl
    · exact XB.c0
    · exact XB.c1
    · exact XB.c2)
  obtain ⟨la', lc', rfl⟩ := hE.form
  have hge : ∀ g, (Value.slice la k lc).ownBlock = some g → q + 1 ≤ g := fun g e => (E.ge g e).1
  have hlow : ∀ g, g < q + 1 → w'.heap[g]? = u.heap[g]? := fun g hlt => (hg.block g (by simp; omega) (fun e => by have := hge g e.symm; omega)).trans (hb2.block g (by omega))
  have hsz := hg.size
  simp only [World.size_alloc] at hsz
  refine ⟨la', lc', w', hr, hE, R.keep (hlow q (by omega)) (fun b hb => hlow b (by omega)), ?_, by omega⟩
  exact (B.trans (hb2.mono B.size)).grown hg (by have := B.size; simp; omega) (fun g e => by have := hge g e; omega)
set_option maxRecDepth 100000 in
set_option maxHeartbeats 8000000 in
theorem implRf_any (a : Option Addr) (N c : Nat) (f : Nat → Nat) (hf : ∀ i, f i < 256) (hN : N ≤ 1048576) (hc : N ≤ c) (w : World) (h : Code8 w a N f) :
    Calls Try.prog 27 #[.slice a N c] w fun e w' => (∃ m G cd, RfIs N f m G cd ∧ RetFs m G cd w.heap.size e w') ∧ Below w.heap.size w w' := by
  by_cases hL : 65536 < N
  · have g0 : (65536 : Int) < (N : Int) := by omega
    have HX : Hid (RfIs N f 0 (fiR f) 2) := .inl ⟨hL, rfl, rfl⟩
    clear h hL hc
    go_enter Try.func27, Try.ntmps27
    go_wp2
    go_ret2
    exact ⟨⟨_, _, _, HX.out, retFs_nil _ _ _ _⟩, Below.refl _ _⟩
  · have g0 : ¬ (65536 : Int) < (N : Int) := by omega
    obtain ⟨q, hq⟩ : ∃ q, q = w.heap.size := ⟨_, rfl⟩
    obtain ⟨v1, hv1⟩ : ∃ v, v = w.alloc (.cells #[.slice a N c, .bool false] 81) := ⟨_, rfl⟩
    have A1 : Hid (Below w.heap.size w v1) := by show Below _ _ _; rw [hv1]; exact (Below.refl _ _).alloc (Nat.le_refl _) _
    have R1 : Hid (Rdz v1 q q N f (some 0)) := by
      refine ⟨by omega, a, c, by omega, ?_, ?_, ?_, fun e => absurd e (by omega)⟩
      · rw [hv1, hq]; exact Box2.made _ _ _ _
      · have := h.below A1.out; exact this.congr (fun i hi => by rw [Nat.zero_add])
      · rw [hq]; exact fun x h0 hx => h.lt x (by omega) hx
    have HC : Hid (Code8 w a N f) := h
    have HV : Hid (w.alloc (.cells #[.slice a N c, .bool false] 81) = v1) := hv1.symm
    have QL : Hid (q < v1.heap.size) := by show _ < _; rw [hv1, hq]; simp
    have HQ : Hid (q = w.heap.size) := hq
    have NU : Hid (∀ (k : Nat) (u : World) (p : Option Nat), 0 < k → k ≤ 4 → Rdz u q q N f p → Calls Try.prog 59 #[.pointer (some ⟨q, 0, none⟩), .int .i64 (k : Int)] u fun e w' => (∃ (x : Nat) (p' : Option Nat), e = .returned (.int .i64 (x : Int)) ∧ Rdz w' q q N f p' ∧ Nxt N k p p' (fun P => x = valN (fun i => f (P + i)) k) ∧ x < 256 ^ k) ∧ OnlyB q u w') := fun k u p h0 h4 hr => numberZ_any q q N k (Nat.le_refl _) f hf h0 h4 hN p u hr
    have TX : Hid (∀ (k : Nat) (u : World) (p : Option Nat), k ≤ 100000 → (∀ P, p = some P → 0 < P) → Rdz u q q N f p → Calls Try.prog 60 #[.pointer (some ⟨q, 0, none⟩), .int .i64 (k : Int)] u fun e w' => (∃ (x : ByteArray) (p' : Option Nat), e = .returned (.string x) ∧ Rdz w' q q N f p' ∧ Nxt N k p p' (fun P => x = kstr f P k) ∧ x.size = k) ∧ OnlyB q u w') := fun k u p hk hp hr => textZ_all q q N k (Nat.le_refl _) f hk hN p hp u hr
    have N0 : Hid (Calls Try.prog 59 #[.pointer (some ⟨q, 0, none⟩), .int .i64 1] v1 fun e w' => (∃ (m : Nat) (p' : Option Nat), e = .returned (.int .i64 (m : Int)) ∧ Rdz w' q q N f p' ∧ SoFar N f 0 (fiR f) p' ∧ m < 256 ∧ (0 < N → m = f 0) ∧ (N = 0 → m = 0)) ∧ OnlyB q v1 w') := by
      rcases Nat.eq_zero_or_pos N with hz | hz
      · refine (numberZ_no q q N 1 f (by omega) v1 (fewZ_some (by omega) R1.out)).mono fun e w' z => ⟨⟨0, none, z.1, z.2.1, .inr ⟨rfl, ?_, ?_⟩, by omega, fun h => by omega, fun _ => rfl⟩, z.2.2⟩
        · show N < 1 + 0; omega
        · show N < 1; omega
      · refine (numberZ_yes q q N 1 0 (Nat.le_refl _) f hf (by omega) (by omega) hN (by omega) v1 R1.out).mono fun e w' z => ⟨⟨f 0, some 1, ?_, z.2.1, .inl ⟨rfl, by show 1 ≤ N; omega, fun i hi => absurd hi (by omega)⟩, hf 0, fun _ => rfl, fun h => by omega⟩, z.2.2⟩
        rw [z.1, valN1]
    have NU1 : Hid (∀ (u : World) (p : Option Nat), Rdz u q q N f p → Calls Try.prog 59 #[.pointer (some ⟨q, 0, none⟩), .int .i64 1] u fun e w' => (∃ (x : Nat) (p' : Option Nat), e = .returned (.int .i64 (x : Int)) ∧ Rdz w' q q N f p' ∧ Nxt N 1 p p' (fun P => x = valN (fun i => f (P + i)) 1) ∧ x < 256) ∧ OnlyB q u w') := fun u p hr => NU.out 1 u p (by omega) (by omega) hr
    have NU2 : Hid (∀ (u : World) (p : Option Nat), Rdz u q q N f p → Calls Try.prog 59 #[.pointer (some ⟨q, 0, none⟩), .int .i64 2] u fun e w' => (∃ (x : Nat) (p' : Option Nat), e = .returned (.int .i64 (x : Int)) ∧ Rdz w' q q N f p' ∧ Nxt N 2 p p' (fun P => x = valN (fun i => f (P + i)) 2) ∧ x < 65536) ∧ OnlyB q u w') := fun u p hr => NU.out 2 u p (by omega) (by omega) hr
    clear NU
    have NB : Hid (N ≤ 65536) := by show _ ≤ _; omega
    have BA : Hid (∀ (la : Option Addr) (m lc : Nat) (G : Nat → Fi) (u : World), m ≤ 1048576 → (∀ i, i < m → (G i).p.size ≤ 255 ∧ (G i).t.size ≤ 65535) → EO u (q + 1) 37 3 (.slice la m lc) m (fiF G) → Calls Try.prog 25 #[.slice la m lc] u fun e w' => (∃ L cd, ByIs m G L cd ∧ RetBy L cd u.heap.size e w') ∧ Below u.heap.size u w') := fun la m lc G u hm hz hE => implBy_any la m lc G (fun i hi => by have := (hz i hi).1; omega) hm hE.slp u hE.els
    have HF : Hid (∀ i, f i < 256) := hf
    clear hf h hv1 hq hc hL R1
    go_enter Try.func27, Try.ntmps27
    go_upto_region 5 with fail
    rw [HV.out, ← HQ.out]
    clear HV
    go_wp2_with fail
    refine (Calls.mono N0.out) ?_
    rintro e v2 ⟨⟨m, p, rfl, hr, hsf, hm, hm1, hm0⟩, ho⟩
    have R2 : Hid (Rdz v2 q q N f p) := hr
    have S2 : Hid (SoFar N f 0 (fiR f) p) := hsf
    have B2 : Hid (Below w.heap.size w v2) := A1.out.trans (ho.toBelow (by rw [HQ.out]; exact Nat.le_refl _) A1.out.size)
    have HM : Hid ((0 < N → m = f 0) ∧ (N = 0 → m = 0)) := ⟨hm1, hm0⟩
    have Q2 : Hid (q < v2.heap.size) := Nat.lt_of_lt_of_le QL.out ho.size
    clear hr hsf hm1 hm0 ho N0 A1 QL
    go_wp2
    go_loopw [5, 15] (fun s i wr => ∃ (k : Nat) (la : Option Addr) (lc : Nat) (G : Nat → Fi) (p : Option Nat), k ≤ m ∧ i = .int .i64 k ∧ s = .slice la k lc ∧ EO wr (q + 1) 37 3 (.slice la k lc) k (fiF G) ∧ Rdz wr q q N f p ∧ SoFar N f k G p ∧ (∀ i, i < k → (G i).p.size ≤ 255 ∧ (G i).t.size ≤ 65535) ∧ Below w.heap.size w wr ∧ q < wr.heap.size) (fun _ i _ => m - (intOf i).toNat)
    case atStart => exact ⟨0, none, 0, fiR f, p, by omega, rfl, rfl, EO.nil _ _ _ _ _, R2.out, S2.out, fun i hi => absurd hi (by omega), B2.out, Q2.out⟩
    case round =>
      clear R2 S2 B2 Q2 p
      obtain ⟨k, la, lc, G, p, hk, rfl, rfl, hE, hR, hS, hZ, hB, hQS⟩ := hrel
      have E : Hid (EO wr (q + 1) 37 3 (.slice la k lc) k (fiF G)) := hE
      have R : Hid (Rdz wr q q N f p) := hR
      have S : Hid (SoFar N f k G p) := hS
      have Z : Hid (∀ i, i < k → (G i).p.size ≤ 255 ∧ (G i).t.size ≤ 65535) := hZ
      have B : Hid (Below w.heap.size w wr) := hB
      have QS : Hid (q < wr.heap.size) := hQS
      clear hE hR hS hZ hB hQS
      by_cases hlt : k < m
      · have hlt' : (k : Int) < (m : Int) := by omega
        clear BA
        obtain ⟨s, hs0, hsi, hsn, hsp⟩ := S.out.inv
        have HS0 : Hid (0 < s) := hs0
        have HSI : Hid (InvR N p s) := hsi
        have HSN : Hid ((p = none → s = 1 + (flatF fiL G k).length) ∧ (p ≠ none → s = stR f k ∧ ∀ i, i < k → G i = fiR f i)) := ⟨hsn, hsp⟩
        clear hs0 hsi hsn hsp
        go_wp2_with fail
        refine (NU1.out _ _ R.out).mono ?_
        rintro e u1 ⟨⟨x1, p1, rfl, hr, hn, hx1⟩, ho⟩
        replace R : Hid (Rdz u1 q q N f p1) := hr
        have M1 : Hid (Nxt N 1 p p1 (fun P => x1 = valN (fun i => f (P + i)) 1)) := hn
        replace E : Hid (EO u1 (q + 1) 37 3 (.slice la k lc) k (fiF G)) := E.out.onlyB ho (by omega)
        replace B : Hid (Below w.heap.size w u1) := B.out.trans (ho.toBelow (by rw [HQ.out]; exact Nat.le_refl _) B.out.size)
        replace QS : Hid (q < u1.heap.size) := Nat.lt_of_lt_of_le QS.out ho.size
        clear hr hn ho
        have I1 : Hid (InvR N p1 (s + 1)) := (HSI.out.next M1.out).1
        go_wp2_with fail
        refine (TX.out x1 _ _ (by omega) (fun P e => I1.out.pos (by omega) P e) R.out).mono ?_
        rintro e u2 ⟨⟨t1, p2, rfl, hr, hn, ht1⟩, ho⟩
        replace R : Hid (Rdz u2 q q N f p2) := hr
        have M2 : Hid (Nxt N x1 p1 p2 (fun P => t1 = kstr f P x1)) := hn
        replace E : Hid (EO u2 (q + 1) 37 3 (.slice la k lc) k (fiF G)) := E.out.onlyB ho (by omega)
        replace B : Hid (Below w.heap.size w u2) := B.out.trans (ho.toBelow (by rw [HQ.out]; exact Nat.le_refl _) B.out.size)
        replace QS : Hid (q < u2.heap.size) := Nat.lt_of_lt_of_le QS.out ho.size
        clear hr hn ho
        go_wp2_with fail
        refine (NU1.out _ _ R.out).mono ?_
        rintro e u3 ⟨⟨x2, p3, rfl, hr, hn, hx2⟩, ho⟩
        replace R : Hid (Rdz u3 q q N f p3) := hr
        have M3 : Hid (Nxt N 1 p2 p3 (fun P => x2 = valN (fun i => f (P + i)) 1)) := hn
        replace E : Hid (EO u3 (q + 1) 37 3 (.slice la k lc) k (fiF G)) := E.out.onlyB ho (by omega)
        replace B : Hid (Below w.heap.size w u3) := B.out.trans (ho.toBelow (by rw [HQ.out]; exact Nat.le_refl _) B.out.size)
        replace QS : Hid (q < u3.heap.size) := Nat.lt_of_lt_of_le QS.out ho.size
        clear hr hn ho
        go_wp2_with fail
        refine (NU2.out _ _ R.out).mono ?_
        rintro e u4 ⟨⟨x3, p4, rfl, hr, hn, hx3⟩, ho⟩
        replace R : Hid (Rdz u4 q q N f p4) := hr
        have M4 : Hid (Nxt N 2 p3 p4 (fun P => x3 = valN (fun i => f (P + i)) 2)) := hn
        replace E : Hid (EO u4 (q + 1) 37 3 (.slice la k lc) k (fiF G)) := E.out.onlyB ho (by omega)
        replace B : Hid (Below w.heap.size w u4) := B.out.trans (ho.toBelow (by rw [HQ.out]; exact Nat.le_refl _) B.out.size)
        replace QS : Hid (q < u4.heap.size) := Nat.lt_of_lt_of_le QS.out ho.size
        clear hr hn ho
        have I4 : Hid (InvR N p4 (s + 1 + x1 + 1 + 2)) := ((((I1.out.next M2.out).1.next M3.out).1).next M4.out).1
        go_wp2_with fail
        refine (TX.out x3 _ _ (by omega) (fun P e => I4.out.pos (by omega) P e) R.out).mono ?_
        rintro e u5 ⟨⟨t2, p5, rfl, hr, hn, ht2⟩, ho⟩
        replace R : Hid (Rdz u5 q q N f p5) := hr
        have M5 : Hid (Nxt N x3 p4 p5 (fun P => t2 = kstr f P x3)) := hn
        replace E : Hid (EO u5 (q + 1) 37 3 (.slice la k lc) k (fiF G)) := E.out.onlyB ho (by omega)
        replace B : Hid (Below w.heap.size w u5) := B.out.trans (ho.toBelow (by rw [HQ.out]; exact Nat.le_refl _) B.out.size)
        replace QS : Hid (q < u5.heap.size) := Nat.lt_of_lt_of_le QS.out ho.size
        clear hr hn ho
        have HT : Hid (t1.size = x1 ∧ t2.size = x3) := ⟨ht1, ht2⟩
        have hd : decide ((x2 : Int) = 1) = decide (x2 = 1) := by congr 1; exact propext ⟨fun h => by omega, fun h => by omega⟩
        have hd' : ((x2 : Int) == 1) = decide (x2 = 1) := by rw [← hd]; rfl
        clear ht1 ht2 I1 I4 NU1 NU2 TX hd
        obtain ⟨la', lc', w', hr, hE, hR, hB, hQ'⟩ := fi_more (⟨t1, decide (x2 = 1), t2⟩ : Fi) E.out R.out B.out QS.out (by rw [HQ.out]; exact Nat.le_refl _) (by omega)
        have E5 : Hid (EO w' (q + 1) 37 3 (.slice la' (k + 1) lc') (k + 1) (fiF (updE G k (⟨t1, decide (x2 = 1), t2⟩ : Fi)))) := hE
        have R5 : Hid (Rdz w' q q N f p5) := hR
        have B5 : Hid (Below w.heap.size w w') := hB
        have Q5 : Hid (q < w'.heap.size) := hQ'
        have S5 : Hid (SoFar N f (k + 1) (updE G k (⟨t1, decide (x2 = 1), t2⟩ : Fi)) p5) := by
          obtain ⟨h1, h2⟩ := file_next HSI.out M1.out M2.out M3.out M4.out M5.out
          obtain ⟨z1, z2⟩ := HT.out
          refine S.out.step (x := ⟨t1, decide (x2 = 1), t2⟩) HSI.out (by show InvR N p5 (s + (4 + t1.size + t2.size)); rw [z1, z2]; exact h1) (fun hp => ?_) (fun hp => (HSN.out.2 hp).1) HSN.out.1 (fun i hi => updE_ne _ _ (by omega)) (updE_eq _ _ _) (fun e hN => ?_)
          · show _ ∧ s + (4 + t1.size + t2.size) = _
            rw [z1, z2]
            exact h2 hp
          · have := M1.out
            rw [e] at this
            exact file_whole this M2.out M3.out M4.out M5.out hN
        have Z5 : Hid (∀ i, i < k + 1 → (updE G k (⟨t1, decide (x2 = 1), t2⟩ : Fi) i).p.size ≤ 255 ∧ (updE G k (⟨t1, decide (x2 = 1), t2⟩ : Fi) i).t.size ≤ 65535) := fun i hi => by
          obtain ⟨z1, z2⟩ := HT.out
          rcases Nat.lt_or_ge i k with hl | hl
          · rw [updE_ne _ _ (by omega)]; exact Z.out i hl
          · obtain rfl : i = k := by omega
            rw [updE_eq]
            show t1.size ≤ 255 ∧ t2.size ≤ 65535
            omega
        clear hE hR hB hQ' E R B QS S Z M1 M2 M3 M4 M5 HSI HSN HT HS0
        generalize decide (x2 = 1) = bd at *
        go_wp2_with (at_builtin; refine Lib.wpList_append_run _ rfl (.tmp 24) (.tmp 26) 23 23 rfl (.slice la k lc) (.slice (some ⟨u5.heap.size + 1, 0, none⟩) 1 1) rfl rfl _ _ (hr _) ?_)
        go_wp2
        go_roundw
        case rel => exact ⟨k + 1, la', lc', _, p5, by omega, by go_num, rfl, E5.out, R5.out, S5.out, Z5.out, B5.out, Q5.out⟩
        case measure => simp [intOf]; omega
      · obtain rfl : k = m := by omega
        have hlt' : ¬ (k : Int) < (k : Int) := by omega
        have BY : Hid (Calls Try.prog 25 #[.slice la k lc] wr fun e w' => (∃ L cd, ByIs k G L cd ∧ RetBy L cd wr.heap.size e w') ∧ Below wr.heap.size wr w') := BA.out la k lc G wr (by omega) Z.out E.out
        clear BA NU1 NU2 TX
        go_wp2_with fail
        refine (Calls.mono BY.out) ?_
        rintro e u1 ⟨⟨L, cd, hI, hRb⟩, hb⟩
        have E1 : Hid (EO u1 (q + 1) 37 3 (.slice la k lc) k (fiF G)) := E.out.below hb
        have B1 : Hid (Below w.heap.size w u1) := B.out.trans (hb.mono B.out.size)
        clear hb BY
        have BQ : Hid (w.heap.size ≤ q + 1) := by have := HQ.out; show _ ≤ _; omega
        have CW : Hid (Code8 u1 a N f) := HC.out.below B1.out
        rcases hI with ⟨h1, _, _⟩ | ⟨_, ⟨hno, rfl, rfl⟩ | ⟨hok, rfl, hL⟩⟩
        · omega
        · have HX : Hid (RfIs N f 0 (fiR f) 3) := by
            refine .inr ⟨by have := NB.out; omega, .inr ⟨?_, rfl, rfl⟩⟩
            rcases Nat.eq_zero_or_pos N with hz | hz
            · exact fun g => by have := g.1; omega
            · exact S.out.bad hz (HM.out.1 hz) (fun q => hno q.1)
          obtain ⟨ga, gc, rfl⟩ : ∃ ga gc, e = .returned (.tuple #[.slice ga 0 gc, .int .i64 1]) := by
            rcases hRb with ⟨_, ga, rfl⟩ | ⟨g, gc, rfl, _⟩
            · exact ⟨_, _, rfl⟩
            · exact ⟨_, _, rfl⟩
          clear hno hRb S HM E Z B R QS CW
          go_wp2
          go_ret2
          exact ⟨⟨_, _, _, HX.out, retFs_nil _ _ _ _⟩, B1.out⟩
        · obtain ⟨g, gc, rfl, hRL⟩ : ∃ g gc, e = .returned (.tuple #[.slice (some ⟨g, 0, none⟩) L.length gc, .int .i64 0]) ∧ RL u1 wr.heap.size g gc L := by
            rcases hRb with ⟨e0, _⟩ | h
            · rw [hL] at e0; unfold filL at e0; simp at e0
            · exact h
          have EQ : Hid (Calls Try.prog 61 #[.slice (some ⟨g, 0, none⟩) L.length gc, .slice a N c] u1 fun e w' => Says e (L = byL N f) ∧ u1 = w') := (bytesEq_any _ _ _ _ _ _ _ _ u1 (code_of_RL hRL) CW.out).mono fun e w' z => ⟨by
            obtain ⟨b, h1, h2⟩ := z.1
            exact ⟨b, h1, h2.trans (kstr_list (fun x hx => filL_lt hok x (by rw [← hL]; exact hx)) HF.out)⟩, z.2⟩
          have HOK : Hid (FsOk k G ∧ L = filL k G) := ⟨hok, hL⟩
          clear hRb hok hL hRL CW E R B QS Z HF
          go_wp2_with fail
          refine (Calls.mono EQ.out) ?_
          rintro e _ ⟨⟨b, rfl, hbi⟩, rfl⟩
          have HBI : Hid (b = true ↔ L = byL N f) := hbi
          clear hbi EQ
          cases b with
          | true =>
            have HX : Hid (RfIs N f k G 0) := by
              obtain ⟨h1, h2⟩ := HOK.out
              have h3 := HBI.out.1 rfl
              have hz : 0 < N := by
                have h4 := congrArg List.length h3
                rw [byL_length, h2] at h4
                unfold filL at h4
                rw [List.length_append] at h4
                simp at h4
                omega
              obtain ⟨h5, h6⟩ := (S.out.good hz (HM.out.1 hz)).1 ⟨h1, by rw [← h2]; exact h3⟩
              exact .inr ⟨by have := NB.out; omega, .inl ⟨h5, rfl, HM.out.1 hz, h6⟩⟩
            clear HBI HOK S HM
            go_wp2
            go_ret2
            exact ⟨⟨_, _, _, HX.out, ⟨_, _, rfl, E1.out.mono BQ.out⟩⟩, B1.out⟩
          | false =>
            have HX : Hid (RfIs N f 0 (fiR f) 3) := by
              refine .inr ⟨by have := NB.out; omega, .inr ⟨?_, rfl, rfl⟩⟩
              rcases Nat.eq_zero_or_pos N with hz | hz
              · exact fun g => by have := g.1; omega
              · refine S.out.bad hz (HM.out.1 hz) (fun q => ?_)
                have := HBI.out.2 (HOK.out.2.trans q.2)
                cases this
            clear HBI HOK S HM
            go_wp2
            go_ret2
            exact ⟨⟨_, _, _, HX.out, retFs_nil _ _ _ _⟩, B1.out⟩
end Go.Proofs.Ytbdoablokoghbaa

/-
  ReadFiles of the model (written by tools/mkrfs.py).
-/
namespace Go.Proofs.Ytbdoablokoghbaa
open Go.ChangeShapes Go.WideShapes Go.ChangeAt Go.RowKit
set_option linter.unusedVariables false
set_option maxRecDepth 100000 in
set_option maxHeartbeats 1000000 in
theorem l06NumberF (t : ByteArray) (k : Nat) (ht : t.size = k) (hk : k ≤ 4) (w : World) :
    Calls Try.prog 92 #[.string t] w fun e w' => e = .returned (.int .i64 ((valN (strB t) k : Nat) : Int)) ∧ w' = w := by
  have hnb := valN_lt (strB t) (strB_lt t)
  go_enter Try.func92, Try.ntmps92
  go_wp2
  go_loopw [3, 4] (fun n i wr => ∃ q : Nat, q ≤ k ∧ i = .int .i64 (q : Int) ∧ n = .int .i64 ((valN (strB t) q : Nat) : Int) ∧ wr = w) (fun _ i _ => k - (intOf i).toNat)
  case atStart => exact ⟨0, by omega, rfl, rfl, rfl⟩
  case round =>
    obtain ⟨q, hq, rfl, rfl, rfl⟩ := hrel
    by_cases hlt : q < k
    · have hlt' : (q : Int) < (t.size : Int) := by omega
      have hqs : q < t.size := by omega
      have hq0 : (0 : Int) ≤ (q : Int) := by omega
      have es := strB_eq t q hqs
      have HN : Hid (valN (strB t) (q + 1) = valN (strB t) q * 256 + strB t q) := rfl
      have hl := strB_lt t q
      have hb2 : valN (strB t) q < 16777216 := Nat.lt_of_lt_of_le (hnb q) (by
        have : 256 ^ q ≤ 256 ^ 3 := Nat.pow_le_pow_right (by omega) (by omega)
        simpa using this)
      generalize valN (strB t) q = N at *
      generalize strB t q = S at *
      clear hnb
      go_wp2
      go_roundw
      case rel => exact ⟨q + 1, by omega, by go_num, numEq8 (by rw [HN.out]; push_cast; omega), trivial⟩
      case measure => simp [intOf]; omega
    · obtain rfl : q = k := by omega
      have hlt' : ¬ (q : Int) < (t.size : Int) := by omega
      clear hnb
      go_wp2
      go_ret
      exact ⟨rfl, rfl⟩
theorem cutF {T : ByteArray} {f : Nat → Nat} (hT : ∀ i, i < T.size → strB T i = f i) (o n : Nat) (h : o + n ≤ T.size) : T.extract o (o + n) = kstr f o n := by
  rw [kstr_extract T o n h]
  exact kstr_congr (fun i hi => hT _ (by omega))
theorem fi_app {w u : World} {k lc : Nat} {la : Option Addr} {G : Nat → Fi} (x : Fi) (E : EO u w.heap.size 37 3 (.slice la k lc) k (fiF G)) (B : Below w.heap.size w u) (hk : k ≤ 1000) :
    ∃ la' lc' w', (∀ ty, (Builtin.append_ #[23, 23] ty #[.slice la k lc, .slice (some ⟨u.heap.size, 0, none⟩) 1 1]).run Try.prog (u.alloc (.cells #[.string x.p, .bool x.d, .string x.t] 37)) = .ok (.slice la' (k + 1) lc') w') ∧ EO w' w.heap.size 37 3 (.slice la' (k + 1) lc') (k + 1) (fiF (updE G k x)) ∧ Below w.heap.size w w' := by
  have hb2 : Below u.heap.size u (u.alloc (.cells #[.string x.p, .bool x.d, .string x.t] 37)) := (Below.refl u.heap.size u).alloc (Nat.le_refl _) _
  have XB : Box3 (u.alloc (.cells #[.string x.p, .bool x.d, .string x.t] 37)) u.heap.size 37 (.string x.p) (.bool x.d) (.string x.t) := Box3.made _ _ _ _ _
  obtain ⟨v', w', hr, hE, hg, hloc⟩ := appFi (u.alloc (.cells #[.string x.p, .bool x.d, .string x.t] 37)) w.heap.size (.slice la k lc) k u.heap.size G x (by have := B.size; simp; omega) (by omega) (E.below hb2) (fun j hj => by
    rcases (show j = 0 ∨ j = 1 ∨ j = 2 by omega) with rfl | rfl | rfl
    · exact XB.c0
    · exact XB.c1
    · exact XB.c2)
  obtain ⟨la', lc', rfl⟩ := hE.form
  exact ⟨la', lc', w', hr, hE, (B.trans (hb2.mono B.size)).grown hg (by have := B.size; simp; omega) (fun g e => (E.ge g e).1)⟩
/-- Files were read, or not. -/
def RetRf (f : Nat → Nat) (N : Nat) (B : Nat) (e : Ending) (w : World) : Prop := ∃ (a : Option Addr) (m c : Nat) (ok : Bool), e = .returned (.tuple #[.slice a m c, .bool ok]) ∧ (ok = true ↔ GoodR N f) ∧ (ok = true → m = f 0) ∧ EO w B 37 3 (.slice a m c) m (fiF (fiR f))
theorem notGood {f : Nat → Nat} {N k : Nat} (hk : k < f 0) (h : N < nxR f (stR f k)) : ¬ GoodR N f := fun g => by
  have h1 := g.2.1
  have h2 := stR_le f (k + 1) (f 0 - (k + 1))
  rw [show k + 1 + (f 0 - (k + 1)) = f 0 by omega] at h2
  have h3 : stR f (k + 1) = nxR f (stR f k) := rfl
  omega
theorem strings_list {L : List Nat} {T : ByteArray} {f : Nat → Nat} (hL : ∀ x ∈ L, x < 256) (hf : ∀ i, f i < 256) (hT : ∀ i, i < T.size → strB T i = f i) : kstr (fun i => L.getD i 0) 0 L.length = T ↔ L = byL T.size f := by
  rw [← kstr_list hL hf]
  have : kstr f 0 T.size = T := by
    conv => rhs; rw [← kstr_self T]
    exact kstr_congr (fun i hi => by rw [Nat.zero_add]; exact (hT i hi).symm)
  rw [this]
set_option maxRecDepth 100000 in
set_option maxHeartbeats 16000000 in
theorem l11Read_any (T : ByteArray) (f : Nat → Nat) (hf : ∀ i, f i < 256) (hT : ∀ i, i < T.size → strB T i = f i) (hN : T.size ≤ 65536) (w : World) :
    Calls Try.prog 62 #[.string T] w fun e w' => RetRf f T.size w.heap.size e w' ∧ Below w.heap.size w w' := by
  have L0 : Hid (EO (w.alloc (.cells #[] 37)) w.heap.size 37 3 (.slice (some ⟨w.heap.size, 0, none⟩) 0 0) 0 (fiF (fiR f))) := EO.lit w w.heap.size _ 3 (Nat.le_refl _) _
  have A0 : Hid (Below w.heap.size w (w.alloc (.cells #[] 37))) := (Below.refl _ _).alloc (Nat.le_refl _) _
  rcases Nat.eq_zero_or_pos T.size with hz | hz
  · obtain rfl : T = ⟨#[]⟩ := ByteArray.ext (Array.eq_empty_of_size_eq_zero hz)
    have HG : Hid (¬ GoodR (⟨#[]⟩ : ByteArray).size f) := fun g => absurd g.1 (by show ¬ 0 < 0; omega)
    clear hf hT hN hz
    go_enter Try.func62, Try.ntmps62
    go_wp2
    go_ret2
    exact ⟨⟨_, _, _, _, rfl, by simp [HG.out], (fun h => by cases h), L0.out⟩, A0.out⟩
  · have g1 : (T.toList == []) = false := textEmpty hz
    have g2 : T.toList.isEmpty = false := textEmpty2 hz
    have HF : Hid (∀ i, f i < 256) := hf
    have HT : Hid (∀ i, i < T.size → strB T i = f i) := hT
    have e0 : ((T[0]'hz).toNat : Int) = ((f 0 : Nat) : Int) := by rw [strB_eq T 0 hz, hT 0 hz]
    have HC : Hid (∃ c0, c0 = f 0) := ⟨_, rfl⟩
    obtain ⟨c0, hc0⟩ := HC.out
    rw [← hc0] at e0
    have hc1 : c0 < 256 := by rw [hc0]; exact hf 0
    have C0 : Hid (c0 = f 0) := hc0
    have TZ : Hid (0 < T.size) := hz
    have i1 : (0 : Int) < (T.size : Int) := by omega
    clear hc0 HC hf hT
    go_enter Try.func62, Try.ntmps62
    go_wp2
    generalize (w.alloc (.cells #[] 37)) = v1 at *
    go_loopw [4, 5, 6] (fun ou at_ i wr => ∃ (k j lc : Nat) (la : Option Addr), k + j = c0 ∧ ou = .slice la k lc ∧ at_ = .int .i64 ((stR f k : Nat) : Int) ∧ i = .int .i64 (j : Int) ∧ stR f k ≤ T.size ∧ EO wr w.heap.size 37 3 (.slice la k lc) k (fiF (fiR f)) ∧ Below w.heap.size w wr) (fun _ _ i _ => (intOf i).toNat)
    case atStart => exact ⟨0, c0, 0, _, by omega, rfl, rfl, rfl, by show 1 ≤ T.size; omega, L0.out, A0.out⟩
    case round =>
      clear L0 A0 e0
      obtain ⟨k, j, lc, la, hkj, rfl, rfl, rfl, hst, hE, hB⟩ := hrel
      have RV : Hid (EO wr w.heap.size 37 3 (.slice la k lc) k (fiF (fiR f))) := hE
      have B : Hid (Below w.heap.size w wr) := hB
      obtain ⟨s, hs⟩ : ∃ s, s = stR f k := ⟨_, rfl⟩
      rw [← hs] at hst ⊢
      have HS : Hid (s = stR f k) := hs
      clear hE hB hs
      by_cases hj : 0 < j
      · have hj' : (0 : Int) < (j : Int) := by omega
        have HK : Hid (k < f 0) := by have := C0.out; show _ < _; omega
        by_cases hA : s < T.size
        · have a1 : ¬ (T.size : Int) ≤ (s : Int) := by omega
          have a2 : (s : Int) < (T.size : Int) := by omega
          have a3 : (0 : Int) ≤ (s : Int) := by omega
          obtain ⟨nn, hnn⟩ : ∃ nn, nn = f s := ⟨_, rfl⟩
          have es : ((T[s]'hA).toNat : Int) = ((nn : Nat) : Int) := by rw [strB_eq T s hA, HT.out s hA, hnn]
          have HNN : Hid (nn = f s) := hnn
          have nl : nn < 256 := by rw [hnn]; exact HF.out s
          clear hnn
          by_cases hBB : s + 4 + nn ≤ T.size
          · have b1 : ¬ (T.size : Int) < (s : Int) + 1 + (nn : Int) + 3 := by omega
            have b2 : (s : Int) + 1 + (nn : Int) < (T.size : Int) := by omega
            have b3 : (0 : Int) ≤ (s : Int) + 1 + (nn : Int) := by omega
            have b4 : ((s : Int) + 1 + (nn : Int)).toNat = s + 1 + nn := by omega
            have b5 : s + 1 + nn < T.size := by omega
            obtain ⟨db, hdb⟩ : ∃ db, db = f (s + 1 + nn) := ⟨_, rfl⟩
            have ed : ((T[s + 1 + nn]'b5).toNat : Int) = ((db : Nat) : Int) := by rw [strB_eq T _ b5, HT.out _ b5, hdb]
            have dl : db < 256 := by rw [hdb]; exact HF.out _
            obtain ⟨PT, hPT⟩ : ∃ PT, PT = kstr f (s + 1) nn := ⟨_, rfl⟩
            have sl1 : ∀ w' : World, (Instr.slice 9 (.string T) (some (.int .i64 ((s : Int) + 1))) (some (.int .i64 ((s : Int) + 1 + (nn : Int)))) none).run Try.prog w' = .ok (.string PT) w' := fun w' => by
              have := run_slice_string (P := Try.prog) w' 9 T .i64 .i64 ((s : Int) + 1) ((s : Int) + 1 + (nn : Int)) Try.underlying9 (by omega) (by omega) (by omega)
              rwa [show ((s : Int) + 1).toNat = s + 1 from by omega, show ((s : Int) + 1 + (nn : Int)).toNat = s + 1 + nn from by omega, cutF HT.out (s + 1) nn (by omega), ← hPT] at this
            have hd' : (((db : Nat) : Int) == 1) = decide (db = 1) := by
              by_cases e : db = 1
              · subst e; rfl
              · rw [show decide (db = 1) = false from by simp [e]]; simp; omega
            obtain ⟨DB, hDB⟩ : ∃ DB, DB = decide (db = 1) := ⟨_, rfl⟩
            rw [← hDB] at hd'
            obtain ⟨x3, hx3⟩ : ∃ x3, x3 = nDR f s := ⟨_, rfl⟩
            have HX3 : Hid (x3 = nDR f s) := hx3
            have xl : x3 < 65536 := by
              rw [hx3]; unfold nDR
              have h1 := HF.out (s + 2 + f s); have h2 := HF.out (s + 3 + f s); omega
            have NK : Hid (∀ w : World, Calls Try.prog 92 #[.string (kstr f (s + nn + 2) 2)] w fun e w' => e = .returned (.int .i64 ((x3 : Nat) : Int)) ∧ w = w') := fun w => by
              have := l06NumberF (kstr f (s + nn + 2) 2) 2 (kstr_size _ _ _) (by omega) w
              have e2 : valN (strB (kstr f (s + nn + 2) 2)) 2 = x3 := by
                show ((0 * 256 + strB (kstr f (s + nn + 2) 2) 0) * 256 + strB (kstr f (s + nn + 2) 2) 1) = x3
                rw [strB_kstr _ _ _ _ (HF.out _) (by omega), strB_kstr _ _ _ _ (HF.out _) (by omega), hx3]
                unfold nDR
                rw [HNN.out, show s + f s + 2 + 0 = s + 2 + f s by omega, show s + 2 + f s + 1 = s + 3 + f s by omega]
                omega
              rw [e2] at this
              exact this.mono fun _ _ z => ⟨z.1, z.2.symm⟩
            have sl2 : ∀ w' : World, (Instr.slice 9 (.string T) (some (.int .i64 ((s : Int) + ((nn : Int) + 2)))) (some (.int .i64 ((s : Int) + ((nn : Int) + 2) + 2))) none).run Try.prog w' = .ok (.string (kstr f (s + nn + 2) 2)) w' := fun w' => by
              have := run_slice_string (P := Try.prog) w' 9 T .i64 .i64 ((s : Int) + ((nn : Int) + 2)) ((s : Int) + ((nn : Int) + 2) + 2) Try.underlying9 (by omega) (by omega) (by omega)
              rwa [show ((s : Int) + ((nn : Int) + 2)).toNat = s + nn + 2 from by omega, show ((s : Int) + ((nn : Int) + 2) + 2).toNat = s + nn + 2 + 2 from by omega, cutF HT.out (s + nn + 2) 2 (by omega)] at this
            have HFI : Hid (PT = kstr f (s + 1) nn ∧ DB = decide (f (s + 1 + nn) = 1)) := ⟨hPT, by rw [hDB, hdb]⟩
            generalize hKS : kstr f (s + nn + 2) 2 = KS at *
            clear hPT hDB hdb hx3 hKS
            have w1 : IntKind.i64.wrap ((s : Int) + 1) = (s : Int) + 1 := IntWalk.i64_in _ (by omega)
            have w2 : IntKind.i64.wrap ((s : Int) + 1 + (nn : Int)) = (s : Int) + 1 + (nn : Int) := IntWalk.i64_in _ (by omega)
            have w3 : IntKind.i64.wrap (nn : Int) = (nn : Int) := IntWalk.i64_in _ (by omega)
            have hbd : Below wr.heap.size wr wr.drew := (Below.refl _ _).drew
            have RVd : Hid (EO wr.drew w.heap.size 37 3 (.slice la k lc) k (fiF (fiR f))) := RV.out.below hbd
            have Bd : Hid (Below w.heap.size w wr.drew) := B.out.trans (hbd.mono B.out.size)
            clear RV B hbd
            have RV : Hid (EO wr.drew w.heap.size 37 3 (.slice la k lc) k (fiF (fiR f))) := RVd.out
            clear RVd
            go_upto_region 11 with fail
            have H : Below w.heap.size w wr.drew := Bd.out
            refine wp_region_noPanic ?_
            refine wp_region_held_drew (S := fun w' => Below w.heap.size w w') (by kernel_rfl) H (fun _ => ?_)
            generalize wr.drew = y0 at *
            refine wpAnyH_take (i := 0) (v := .string T) rfl (by kernel_rfl) (by kernel_rfl) (by kernel_rfl) (fun _ _ _ h => h) (Or.inl ⟨by rfl, ?_⟩) H ?_
            · intro w' hSw; clear hSw; go_simp
            change wpAnyH _ _ _ _ _ _ _ { tmps := #[_, _, _, _, _, _, _, _, _, _, _, _, _, _, _, _, _, _, _, _, _, _, _, _, _, _, _, _, _, _, _, _, _, _, _, _, _, _, _, _, _, _, _, _, _, _, _, _, _, _, _, _, _, _, _, _, _, _, _, _, _, _, _, _, _, _, _, _, _, _, _, _, _, _, _, _, _, _, _, _, _, _, _, _, _, _, _, _, _, _, _, _, _, _, _, _, _, _, _, _, _, _], defers := _ } _
            refine wpAnyH_take (i := 1) (v := .int .i64 (s : Int)) rfl (by kernel_rfl) (by kernel_rfl) (by kernel_rfl) (fun _ _ _ h => h) (Or.inl ⟨by rfl, ?_⟩) H ?_
            · intro w' hSw; clear hSw; go_simp
            change wpAnyH _ _ _ _ _ _ _ { tmps := #[_, _, _, _, _, _, _, _, _, _, _, _, _, _, _, _, _, _, _, _, _, _, _, _, _, _, _, _, _, _, _, _, _, _, _, _, _, _, _, _, _, _, _, _, _, _, _, _, _, _, _, _, _, _, _, _, _, _, _, _, _, _, _, _, _, _, _, _, _, _, _, _, _, _, _, _, _, _, _, _, _, _, _, _, _, _, _, _, _, _, _, _, _, _, _, _, _, _, _, _, _, _], defers := _ } _
            refine wpAnyH_take (i := 2) (v := .int .i64 ((s : Int) + 1)) rfl (by kernel_rfl) (by kernel_rfl) (by kernel_rfl) (fun _ _ _ h => h) (Or.inl ⟨by rfl, ?_⟩) H ?_
            · intro w' hSw; clear hSw; go_simp
            change wpAnyH _ _ _ _ _ _ _ { tmps := #[_, _, _, _, _, _, _, _, _, _, _, _, _, _, _, _, _, _, _, _, _, _, _, _, _, _, _, _, _, _, _, _, _, _, _, _, _, _, _, _, _, _, _, _, _, _, _, _, _, _, _, _, _, _, _, _, _, _, _, _, _, _, _, _, _, _, _, _, _, _, _, _, _, _, _, _, _, _, _, _, _, _, _, _, _, _, _, _, _, _, _, _, _, _, _, _, _, _, _, _, _, _], defers := _ } _
            refine wpAnyH_take (i := 3) (v := .int .i64 (s : Int)) rfl (by kernel_rfl) (by kernel_rfl) (by kernel_rfl) (fun _ _ _ h => h) (Or.inl ⟨by rfl, ?_⟩) H ?_
            · intro w' hSw; clear hSw; go_simp
            change wpAnyH _ _ _ _ _ _ _ { tmps := #[_, _, _, _, _, _, _, _, _, _, _, _, _, _, _, _, _, _, _, _, _, _, _, _, _, _, _, _, _, _, _, _, _, _, _, _, _, _, _, _, _, _, _, _, _, _, _, _, _, _, _, _, _, _, _, _, _, _, _, _, _, _, _, _, _, _, _, _, _, _, _, _, _, _, _, _, _, _, _, _, _, _, _, _, _, _, _, _, _, _, _, _, _, _, _, _, _, _, _, _, _, _], defers := _ } _
            refine wpAnyH_take (i := 4) (v := .int .i64 ((s : Int) + 1)) rfl (by kernel_rfl) (by kernel_rfl) (by kernel_rfl) (fun _ _ _ h => h) (Or.inl ⟨by rfl, ?_⟩) H ?_
            · intro w' hSw; clear hSw; go_simp
            change wpAnyH _ _ _ _ _ _ _ { tmps := #[_, _, _, _, _, _, _, _, _, _, _, _, _, _, _, _, _, _, _, _, _, _, _, _, _, _, _, _, _, _, _, _, _, _, _, _, _, _, _, _, _, _, _, _, _, _, _, _, _, _, _, _, _, _, _, _, _, _, _, _, _, _, _, _, _, _, _, _, _, _, _, _, _, _, _, _, _, _, _, _, _, _, _, _, _, _, _, _, _, _, _, _, _, _, _, _, _, _, _, _, _, _], defers := _ } _
            refine wpAnyH_take (i := 5) (v := .int .i64 (nn : Int)) rfl (by kernel_rfl) (by kernel_rfl) (by kernel_rfl) (fun _ _ _ h => h) (Or.inl ⟨by rfl, ?_⟩) H ?_
            · intro w' hSw; clear hSw; go_simp
            change wpAnyH _ _ _ _ _ _ _ { tmps := #[_, _, _, _, _, _, _, _, _, _, _, _, _, _, _, _, _, _, _, _, _, _, _, _, _, _, _, _, _, _, _, _, _, _, _, _, _, _, _, _, _, _, _, _, _, _, _, _, _, _, _, _, _, _, _, _, _, _, _, _, _, _, _, _, _, _, _, _, _, _, _, _, _, _, _, _, _, _, _, _, _, _, _, _, _, _, _, _, _, _, _, _, _, _, _, _, _, _, _, _, _, _], defers := _ } _
            refine wpAnyH_take (i := 6) (v := .int .i64 ((s : Int) + 1 + (nn : Int))) rfl (by kernel_rfl) (by kernel_rfl) (by kernel_rfl) (fun _ _ _ h => h) (Or.inl ⟨by rfl, ?_⟩) H ?_
            · intro w' hSw; clear hSw; go_simp
            change wpAnyH _ _ _ _ _ _ _ { tmps := #[_, _, _, _, _, _, _, _, _, _, _, _, _, _, _, _, _, _, _, _, _, _, _, _, _, _, _, _, _, _, _, _, _, _, _, _, _, _, _, _, _, _, _, _, _, _, _, _, _, _, _, _, _, _, _, _, _, _, _, _, _, _, _, _, _, _, _, _, _, _, _, _, _, _, _, _, _, _, _, _, _, _, _, _, _, _, _, _, _, _, _, _, _, _, _, _, _, _, _, _, _, _], defers := _ } _
            refine wpAnyH_take (i := 7) (v := .string PT) rfl (by kernel_rfl) (by kernel_rfl) (by kernel_rfl) (fun _ _ _ h => h) (Or.inl ⟨by rfl, ?_⟩) H ?_
            · intro w' hSw; clear hSw; go_simp
            change wpAnyH _ _ _ _ _ _ _ { tmps := #[_, _, _, _, _, _, _, _, _, _, _, _, _, _, _, _, _, _, _, _, _, _, _, _, _, _, _, _, _, _, _, _, _, _, _, _, _, _, _, _, _, _, _, _, _, _, _, _, _, _, _, _, _, _, _, _, _, _, _, _, _, _, _, _, _, _, _, _, _, _, _, _, _, _, _, _, _, _, _, _, _, _, _, _, _, _, _, _, _, _, _, _, _, _, _, _, _, _, _, _, _, _], defers := _ } _
            refine wpAnyH_take (i := 8) (v := .string T) rfl (by kernel_rfl) (by kernel_rfl) (by kernel_rfl) (fun _ _ _ h => h) (Or.inl ⟨by rfl, ?_⟩) H ?_
            · intro w' hSw; clear hSw; go_simp
            change wpAnyH _ _ _ _ _ _ _ { tmps := #[_, _, _, _, _, _, _, _, _, _, _, _, _, _, _, _, _, _, _, _, _, _, _, _, _, _, _, _, _, _, _, _, _, _, _, _, _, _, _, _, _, _, _, _, _, _, _, _, _, _, _, _, _, _, _, _, _, _, _, _, _, _, _, _, _, _, _, _, _, _, _, _, _, _, _, _, _, _, _, _, _, _, _, _, _, _, _, _, _, _, _, _, _, _, _, _, _, _, _, _, _, _], defers := _ } _
            refine wpAnyH_take (i := 9) (v := .int .i64 (s : Int)) rfl (by kernel_rfl) (by kernel_rfl) (by kernel_rfl) (fun _ _ _ h => h) (Or.inl ⟨by rfl, ?_⟩) H ?_
            · intro w' hSw; clear hSw; go_simp
            change wpAnyH _ _ _ _ _ _ _ { tmps := #[_, _, _, _, _, _, _, _, _, _, _, _, _, _, _, _, _, _, _, _, _, _, _, _, _, _, _, _, _, _, _, _, _, _, _, _, _, _, _, _, _, _, _, _, _, _, _, _, _, _, _, _, _, _, _, _, _, _, _, _, _, _, _, _, _, _, _, _, _, _, _, _, _, _, _, _, _, _, _, _, _, _, _, _, _, _, _, _, _, _, _, _, _, _, _, _, _, _, _, _, _, _], defers := _ } _
            refine wpAnyH_take (i := 10) (v := .int .i64 ((s : Int) + 1)) rfl (by kernel_rfl) (by kernel_rfl) (by kernel_rfl) (fun _ _ _ h => h) (Or.inl ⟨by rfl, ?_⟩) H ?_
            · intro w' hSw; clear hSw; go_simp
            change wpAnyH _ _ _ _ _ _ _ { tmps := #[_, _, _, _, _, _, _, _, _, _, _, _, _, _, _, _, _, _, _, _, _, _, _, _, _, _, _, _, _, _, _, _, _, _, _, _, _, _, _, _, _, _, _, _, _, _, _, _, _, _, _, _, _, _, _, _, _, _, _, _, _, _, _, _, _, _, _, _, _, _, _, _, _, _, _, _, _, _, _, _, _, _, _, _, _, _, _, _, _, _, _, _, _, _, _, _, _, _, _, _, _, _], defers := _ } _
            refine wpAnyH_take (i := 11) (v := .int .i64 (nn : Int)) rfl (by kernel_rfl) (by kernel_rfl) (by kernel_rfl) (fun _ _ _ h => h) (Or.inl ⟨by rfl, ?_⟩) H ?_
            · intro w' hSw; clear hSw; go_simp
            change wpAnyH _ _ _ _ _ _ _ { tmps := #[_, _, _, _, _, _, _, _, _, _, _, _, _, _, _, _, _, _, _, _, _, _, _, _, _, _, _, _, _, _, _, _, _, _, _, _, _, _, _, _, _, _, _, _, _, _, _, _, _, _, _, _, _, _, _, _, _, _, _, _, _, _, _, _, _, _, _, _, _, _, _, _, _, _, _, _, _, _, _, _, _, _, _, _, _, _, _, _, _, _, _, _, _, _, _, _, _, _, _, _, _, _], defers := _ } _
            refine wpAnyH_take (i := 12) (v := .int .i64 ((s : Int) + 1 + (nn : Int))) rfl (by kernel_rfl) (by kernel_rfl) (by kernel_rfl) (fun _ _ _ h => h) (Or.inl ⟨by rfl, ?_⟩) H ?_
            · intro w' hSw; clear hSw; go_simp
            change wpAnyH _ _ _ _ _ _ _ { tmps := #[_, _, _, _, _, _, _, _, _, _, _, _, _, _, _, _, _, _, _, _, _, _, _, _, _, _, _, _, _, _, _, _, _, _, _, _, _, _, _, _, _, _, _, _, _, _, _, _, _, _, _, _, _, _, _, _, _, _, _, _, _, _, _, _, _, _, _, _, _, _, _, _, _, _, _, _, _, _, _, _, _, _, _, _, _, _, _, _, _, _, _, _, _, _, _, _, _, _, _, _, _, _], defers := _ } _
            refine wpAnyH_take (i := 13) (v := .int .u8 (db : Int)) rfl (by kernel_rfl) (by kernel_rfl) (by kernel_rfl) (fun _ _ _ h => h) (Or.inl ⟨by rfl, ?_⟩) H ?_
            · intro w' hSw; clear hSw; go_simp
            change wpAnyH _ _ _ _ _ _ _ { tmps := #[_, _, _, _, _, _, _, _, _, _, _, _, _, _, _, _, _, _, _, _, _, _, _, _, _, _, _, _, _, _, _, _, _, _, _, _, _, _, _, _, _, _, _, _, _, _, _, _, _, _, _, _, _, _, _, _, _, _, _, _, _, _, _, _, _, _, _, _, _, _, _, _, _, _, _, _, _, _, _, _, _, _, _, _, _, _, _, _, _, _, _, _, _, _, _, _, _, _, _, _, _, _], defers := _ } _
            refine wpAnyH_take (i := 14) (v := .bool DB) rfl (by kernel_rfl) (by kernel_rfl) (by kernel_rfl) (fun _ _ _ h => h) (Or.inl ⟨by rfl, ?_⟩) H ?_
            · intro w' hSw; clear hSw; go_simp
            change wpAnyH _ _ _ _ _ _ _ { tmps := #[_, _, _, _, _, _, _, _, _, _, _, _, _, _, _, _, _, _, _, _, _, _, _, _, _, _, _, _, _, _, _, _, _, _, _, _, _, _, _, _, _, _, _, _, _, _, _, _, _, _, _, _, _, _, _, _, _, _, _, _, _, _, _, _, _, _, _, _, _, _, _, _, _, _, _, _, _, _, _, _, _, _, _, _, _, _, _, _, _, _, _, _, _, _, _, _, _, _, _, _, _, _], defers := _ } _
            refine wpAnyH_take (i := 15) (v := .agg #[.string PT, .bool DB, .string ⟨#[]⟩]) rfl (by kernel_rfl) (by kernel_rfl) (by kernel_rfl) (fun _ _ _ h => h) (Or.inl ⟨by rfl, ?_⟩) H ?_
            · intro w' hSw; clear hSw; go_simp
            change wpAnyH _ _ _ _ _ _ _ { tmps := #[_, _, _, _, _, _, _, _, _, _, _, _, _, _, _, _, _, _, _, _, _, _, _, _, _, _, _, _, _, _, _, _, _, _, _, _, _, _, _, _, _, _, _, _, _, _, _, _, _, _, _, _, _, _, _, _, _, _, _, _, _, _, _, _, _, _, _, _, _, _, _, _, _, _, _, _, _, _, _, _, _, _, _, _, _, _, _, _, _, _, _, _, _, _, _, _, _, _, _, _, _, _], defers := _ } _
            refine wpAnyH_ready (rs := [16]) (by kernel_rfl) (by simp) ?_
            refine (AllReadyH.cons rfl (fun KK hK => ?_) AllReadyH.nil)
            go_simp
            have hb : Below y0.heap.size y0 (y0.alloc (.cells #[.string ⟨#[]⟩, .bool false, .string ⟨#[]⟩] 37)) := (Below.refl _ _).alloc (Nat.le_refl _) _
            have FB : Hid (Box3 (y0.alloc (.cells #[.string ⟨#[]⟩, .bool false, .string ⟨#[]⟩] 37)) y0.heap.size 37 (.string ⟨#[]⟩) (.bool false) (.string ⟨#[]⟩)) := Box3.made _ _ _ _ _
            have NR : Hid (∀ g, (Value.slice la k lc).ownBlock = some g → g ≠ y0.heap.size) := fun g e => Nat.ne_of_lt (RV.out.ge g e).2
            have FS : Hid (w.heap.size ≤ y0.heap.size) := H.size
            replace RV : Hid (EO (y0.alloc (.cells #[.string ⟨#[]⟩, .bool false, .string ⟨#[]⟩] 37)) w.heap.size 37 3 (.slice la k lc) k (fiF (fiR f))) := RV.out.below hb
            replace H : Below w.heap.size w (y0.alloc (.cells #[.string ⟨#[]⟩, .bool false, .string ⟨#[]⟩] 37)) := H.trans (hb.mono H.size)
            clear hb
            generalize (y0.alloc (.cells #[.string ⟨#[]⟩, .bool false, .string ⟨#[]⟩] 37)) = y1 at *
            generalize y0.heap.size = fb at *
            refine hK.out _ _ H (fun _ => ?_)
            clear hK KK
            change wpAnyH _ _ _ _ _ _ _ { tmps := #[_, _, _, _, _, _, _, _, _, _, _, _, _, _, _, _, _, _, _, _, _, _, _, _, _, _, _, _, _, _, _, _, _, _, _, _, _, _, _, _, _, _, _, _, _, _, _, _, _, _, _, _, _, _, _, _, _, _, _, _, _, _, _, _, _, _, _, _, _, _, _, _, _, _, _, _, _, _, _, _, _, _, _, _, _, _, _, _, _, _, _, _, _, _, _, _, _, _, _, _, _, _], defers := _ } _
            refine wpAnyH_ready (rs := [17]) (by kernel_rfl) (by simp) ?_
            refine (AllReadyH.cons rfl (fun KK hK => ?_) AllReadyH.nil)
            have c0 := FB.out.c0
            have c1 := FB.out.c1
            have c2 := FB.out.c2
            have f0 := FB.out.fr 0
            have f1 := FB.out.fr 1
            have f2 := FB.out.fr 2
            go_simp
            have FB2 : Hid (Box3 (((y1.setCell ⟨fb, 0, none⟩ (.string PT)).setCell ⟨fb, 1, none⟩ (.bool DB)).setCell ⟨fb, 2, none⟩ (.string ⟨#[]⟩)) fb 37 (.string PT) (.bool DB) (.string ⟨#[]⟩)) := ((FB.out.set0 _).set1 _).set2 _
            replace RV : Hid (EO (((y1.setCell ⟨fb, 0, none⟩ (.string PT)).setCell ⟨fb, 1, none⟩ (.bool DB)).setCell ⟨fb, 2, none⟩ (.string ⟨#[]⟩)) w.heap.size 37 3 (.slice la k lc) k (fiF (fiR f))) := RV.out.keep (fun g e => by rw [Below.heap_setCell _ _ _ g (NR.out g e), Below.heap_setCell _ _ _ g (NR.out g e), Below.heap_setCell _ _ _ g (NR.out g e)])
            replace H : Below w.heap.size w (((y1.setCell ⟨fb, 0, none⟩ (.string PT)).setCell ⟨fb, 1, none⟩ (.bool DB)).setCell ⟨fb, 2, none⟩ (.string ⟨#[]⟩)) := ((H.setCell (p := ⟨fb, 0, none⟩) FS.out _).setCell (p := ⟨fb, 1, none⟩) FS.out _).setCell (p := ⟨fb, 2, none⟩) FS.out _
            clear c0 c1 c2 f0 f1 f2 FB
            generalize (((y1.setCell ⟨fb, 0, none⟩ (.string PT)).setCell ⟨fb, 1, none⟩ (.bool DB)).setCell ⟨fb, 2, none⟩ (.string ⟨#[]⟩)) = y2 at *
            refine hK.out _ _ H (fun _ => ?_)
            clear hK KK
            change wpAnyH _ _ _ _ _ _ _ { tmps := #[_, _, _, _, _, _, _, _, _, _, _, _, _, _, _, _, _, _, _, _, _, _, _, _, _, _, _, _, _, _, _, _, _, _, _, _, _, _, _, _, _, _, _, _, _, _, _, _, _, _, _, _, _, _, _, _, _, _, _, _, _, _, _, _, _, _, _, _, _, _, _, _, _, _, _, _, _, _, _, _, _, _, _, _, _, _, _, _, _, _, _, _, _, _, _, _, _, _, _, _, _, _], defers := _ } _
            refine wpAnyH_done (by kernel_rfl) ?_ _
            refine NoPanic.normal ?_
            have B : Hid (Below w.heap.size w y2) := H
            clear H Bd sl1 ed hd' es
            go_wp2_with fail
            refine (NK.out _).mono ?_
            rintro e _ ⟨rfl, rfl⟩
            by_cases hCC : s + 4 + nn + x3 ≤ T.size
            · have d1 : ¬ (T.size : Int) < (s : Int) + ((nn : Int) + 2) + 2 + (x3 : Int) := by omega
              obtain ⟨DT, hDT⟩ : ∃ DT, DT = kstr f (s + 4 + nn) x3 := ⟨_, rfl⟩
              have sl3 : ∀ w' : World, (Instr.slice 9 (.string T) (some (.int .i64 ((s : Int) + ((nn : Int) + 2) + 2))) (some (.int .i64 ((s : Int) + ((nn : Int) + 2) + 2 + (x3 : Int)))) none).run Try.prog w' = .ok (.string DT) w' := fun w' => by
                have := run_slice_string (P := Try.prog) w' 9 T .i64 .i64 ((s : Int) + ((nn : Int) + 2) + 2) ((s : Int) + ((nn : Int) + 2) + 2 + (x3 : Int)) Try.underlying9 (by omega) (by omega) (by omega)
                rwa [show ((s : Int) + ((nn : Int) + 2) + 2).toNat = s + 4 + nn from by omega, show ((s : Int) + ((nn : Int) + 2) + 2 + (x3 : Int)).toNat = s + 4 + nn + x3 from by omega, cutF HT.out (s + 4 + nn) x3 (by omega), ← hDT] at this
              have c0 := FB2.out.c0
              have c1 := FB2.out.c1
              have c2 := FB2.out.c2
              have f2 := FB2.out.fr 2
              have FB3 : Hid (Box3 (y2.setCell ⟨fb, 2, none⟩ (.string DT)) fb 37 (.string PT) (.bool DB) (.string DT)) := FB2.out.set2 _
              have RV3 : Hid (EO (y2.setCell ⟨fb, 2, none⟩ (.string DT)) w.heap.size 37 3 (.slice la k lc) k (fiF (fiR f))) := RV.out.keep (fun g e => Below.heap_setCell _ _ _ g (NR.out g e))
              have B3 : Hid (Below w.heap.size w (y2.setCell ⟨fb, 2, none⟩ (.string DT))) := B.out.setCell (p := ⟨fb, 2, none⟩) FS.out _
              have HAT : Hid ((⟨PT, DB, DT⟩ : Fi) = fiR f k) := by
                obtain ⟨h1, h2⟩ := HFI.out
                show _ = atR f (stR f k)
                rw [← HS.out]
                unfold atR
                rw [h1, h2, hDT, HX3.out, HNN.out]
              have HNX : Hid (nxR f s = s + 4 + nn + x3) := by show nxR f s = _; unfold nxR; rw [← HX3.out, ← HNN.out]
              have HN2 : Hid (stR f (k + 1) = s + 4 + nn + x3) := by
                show nxR f (stR f k) = _
                rw [← HS.out]
                exact HNX.out
              clear hDT FB2 RV B NK HFI
              go_upto_region 18 with fail
              generalize (y2.setCell ⟨fb, 2, none⟩ (.string DT)) = z1 at *
              clear c0 c1 c2 f2
              have c0 := FB3.out.c0
              have c1 := FB3.out.c1
              have c2 := FB3.out.c2
              obtain ⟨la', lc', w', hr, hE, hB⟩ := fi_app (⟨PT, DB, DT⟩ : Fi) RV3.out B3.out (by have := HK.out; have := C0.out; omega)
              have E5 : Hid (EO w' w.heap.size 37 3 (.slice la' (k + 1) lc') (k + 1) (fiF (fiR f))) := hE.congr (fun i hi j hj => by
                show fiV _ j = fiV _ j
                by_cases e : i = k
                · rw [e, updE_eq, HAT.out]
                · rw [updE_ne _ _ e])
              have B5 : Hid (Below w.heap.size w w') := hB
              clear hE hB RV3 B3 FB3 HAT
              go_wp2_with (at_builtin; refine Lib.wpList_append_run _ rfl (.tmp 88) (.tmp 90) 23 23 rfl (.slice la k lc) (.slice (some ⟨z1.heap.size, 0, none⟩) 1 1) rfl rfl _ _ (hr _) ?_)
              go_wp2
              go_roundw
              case rel => exact ⟨k + 1, j - 1, lc', la', by omega, rfl, numEq8 (by have := HN2.out; omega), numEq8 (by omega), by have := HN2.out; omega, E5.out, B5.out⟩
              case measure => simp [intOf]; omega
            · have d1 : (T.size : Int) < (s : Int) + ((nn : Int) + 2) + 2 + (x3 : Int) := by omega
              have HG : Hid (¬ GoodR T.size f) := notGood HK.out (by rw [← HS.out]; unfold nxR; rw [← HX3.out, ← HNN.out]; omega)
              clear NK HFI HX3 HNN
              go_wp2
              go_ret2
              exact ⟨⟨_, _, _, _, rfl, by simp [HG.out], (fun h => by cases h), RV.out⟩, B.out⟩
          · have b1 : (T.size : Int) < (s : Int) + 1 + (nn : Int) + 3 := by omega
            have HG : Hid (¬ GoodR T.size f) := notGood HK.out (by rw [← HS.out]; unfold nxR; rw [← HNN.out]; omega)
            clear HNN
            go_wp2
            go_ret2
            exact ⟨⟨_, _, _, _, rfl, by simp [HG.out], (fun h => by cases h), RV.out⟩, B.out⟩
        · have a1 : (T.size : Int) ≤ (s : Int) := by omega
          have HG : Hid (¬ GoodR T.size f) := notGood HK.out (by rw [← HS.out]; unfold nxR; omega)
          go_wp2
          go_ret2
          exact ⟨⟨_, _, _, _, rfl, by simp [HG.out], (fun h => by cases h), RV.out⟩, B.out⟩
      · have hj' : ¬ (0 : Int) < (j : Int) := by omega
        obtain rfl : j = 0 := by omega
        obtain rfl : k = c0 := by omega
        have HST : Hid (stR f k ≤ T.size) := by show _ ≤ _; rw [← HS.out]; exact hst
        have hbd : Below wr.heap.size wr wr.drew := (Below.refl _ _).drew
        have RVd : Hid (EO wr.drew w.heap.size 37 3 (.slice la k lc) k (fiF (fiR f))) := RV.out.below hbd
        have Bd : Hid (Below w.heap.size w wr.drew) := B.out.trans (hbd.mono B.out.size)
        clear RV B hbd
        have RV : Hid (EO wr.drew w.heap.size 37 3 (.slice la k lc) k (fiF (fiR f))) := RVd.out
        clear RVd
        have FO : Hid (∀ w' : World, EO w' w.heap.size 37 3 (.slice la k lc) k (fiF (fiR f)) → Calls Try.prog 57 #[.slice la k lc] w' fun e w'' => Says e (FsOk k (fiR f)) ∧ Below w'.heap.size w' w'') := fun w' h => specFilesOK_any la k lc (fiR f) (fun i hi => by
          have h1 : (fiR f i).p.size = f (stR f i) := kstr_size _ _ _
          have h2 := HF.out (stR f i)
          omega) (by omega) w' h.els
        by_cases hok : FsOk k (fiR f)
        · have BY : Hid (∀ w' : World, EO w' w.heap.size 37 3 (.slice la k lc) k (fiF (fiR f)) → Calls Try.prog 58 #[.slice la k lc] w' fun e w'' => (∃ g c, e = .returned (.slice (some ⟨g, 0, none⟩) (filL k (fiR f)).length c) ∧ RL w'' w'.heap.size g c (filL k (fiR f))) ∧ Below w'.heap.size w' w'') := fun w' h => l11Bytes_any la k lc (fiR f) hok w' h.els
          have HEQ : Hid (kstr (fun i => (filL k (fiR f)).getD i 0) 0 (filL k (fiR f)).length = T ↔ filL k (fiR f) = byL T.size f) := strings_list (filL_lt hok) HF.out HT.out
          have HG : Hid ((kstr (fun i => (filL k (fiR f)).getD i 0) 0 (filL k (fiR f)).length = T) ↔ GoodR T.size f) := by
            refine HEQ.out.trans ⟨fun e => ?_, fun g => ?_⟩
            · have h0 := C0.out
              subst h0
              exact ⟨TZ.out, HST.out, hok, e⟩
            · have h0 := C0.out
              subst h0
              exact g.2.2.2
          clear HEQ
          have KC : Hid (∀ (w' : World) (B g c : Nat), RL w' B g c (filL k (fiR f)) → (convert 22 9 (.slice (some ⟨g, 0, none⟩) (filL k (fiR f)).length c)).run Try.prog w' = .ok (.string (kstr (fun i => (filL k (fiR f)).getD i 0) 0 (filL k (fiR f)).length)) w') := fun w' B g c h => kstr_of_code (code_of_RL h)
          generalize kstr (fun i => (filL k (fiR f)).getD i 0) 0 (filL k (fiR f)).length = KT at *
          generalize filL k (fiR f) = LL at *
          obtain ⟨BB, hBB1, hBB2⟩ : ∃ BB : Bool, (KT.toList == T.toList) = BB ∧ (BB = true ↔ KT = T) := by
            by_cases e : KT = T
            · subst e; exact ⟨true, by simp, by simp⟩
            · exact ⟨false, textNe e, by simp [e]⟩
          have HBB : Hid (BB = true ↔ GoodR T.size f) := hBB2.trans HG.out
          have HOK : Hid (FsOk k (fiR f)) := hok
          clear hok hBB2 HG HST HS
          go_upto_region 20 with fail
          have H : Below w.heap.size w wr.drew := Bd.out
          refine wp_region_noPanic ?_
          refine wp_region_held_drew (S := fun w' => Below w.heap.size w w') (by kernel_rfl) H (fun _ => ?_)
          generalize wr.drew = z0 at *
          refine wpAnyH_take (i := 0) (v := .slice la k lc) rfl (by kernel_rfl) (by kernel_rfl) (by kernel_rfl) (fun _ _ _ h => h) (Or.inl ⟨by rfl, ?_⟩) H ?_
          · intro w' hSw; clear hSw; go_simp
          change wpAnyH _ _ _ _ _ _ _ { tmps := #[_, _, _, _, _, _, _, _, _, _, _, _, _, _, _, _, _, _, _, _, _, _, _, _, _, _, _, _, _, _, _, _, _, _, _, _, _, _, _, _, _, _, _, _, _, _, _, _, _, _, _, _, _, _, _, _, _, _, _, _, _, _, _, _, _, _, _, _, _, _, _, _, _, _, _, _, _, _, _, _, _, _, _, _, _, _, _, _, _, _, _, _, _, _, _, _, _, _, _, _, _, _], defers := _ } _
          refine wpAnyH_take (i := 1) (v := .slice la k lc) rfl (by kernel_rfl) (by kernel_rfl) (by kernel_rfl) (fun _ _ _ h => h) (Or.inl ⟨by rfl, ?_⟩) H ?_
          · intro w' hSw; clear hSw; go_simp
          change wpAnyH _ _ _ _ _ _ _ { tmps := #[_, _, _, _, _, _, _, _, _, _, _, _, _, _, _, _, _, _, _, _, _, _, _, _, _, _, _, _, _, _, _, _, _, _, _, _, _, _, _, _, _, _, _, _, _, _, _, _, _, _, _, _, _, _, _, _, _, _, _, _, _, _, _, _, _, _, _, _, _, _, _, _, _, _, _, _, _, _, _, _, _, _, _, _, _, _, _, _, _, _, _, _, _, _, _, _, _, _, _, _, _, _], defers := _ } _
          refine wpAnyH_ready (rs := [2]) (by kernel_rfl) (by simp) ?_
          refine (AllReadyH.cons rfl (fun KK hK => ?_) AllReadyH.nil)
          go_simp
          refine (FO.out _ RV.out).mono ?_
          rintro e z1 ⟨⟨yb, rfl, hyb⟩, hb⟩
          obtain rfl : yb = true := hyb.2 HOK.out
          replace RV : Hid (EO z1 w.heap.size 37 3 (.slice la k lc) k (fiF (fiR f))) := RV.out.below hb
          replace H : Below w.heap.size w z1 := H.trans (hb.mono H.size)
          clear hb hyb FO
          refine hK.out _ _ H (fun _ => ?_)
          clear hK KK
          change wpAnyH _ _ _ _ _ _ _ { tmps := #[_, _, _, _, _, _, _, _, _, _, _, _, _, _, _, _, _, _, _, _, _, _, _, _, _, _, _, _, _, _, _, _, _, _, _, _, _, _, _, _, _, _, _, _, _, _, _, _, _, _, _, _, _, _, _, _, _, _, _, _, _, _, _, _, _, _, _, _, _, _, _, _, _, _, _, _, _, _, _, _, _, _, _, _, _, _, _, _, _, _, _, _, _, _, _, _, _, _, _, _, _, _], defers := _ } _
          refine wpAnyH_take (i := 3) (v := .bool true) rfl (by kernel_rfl) (by kernel_rfl) (by kernel_rfl) (fun _ _ _ h => h) (Or.inl ⟨by rfl, ?_⟩) H ?_
          · intro w' hSw; clear hSw; go_simp
          change wpAnyH _ _ _ _ _ _ _ { tmps := #[_, _, _, _, _, _, _, _, _, _, _, _, _, _, _, _, _, _, _, _, _, _, _, _, _, _, _, _, _, _, _, _, _, _, _, _, _, _, _, _, _, _, _, _, _, _, _, _, _, _, _, _, _, _, _, _, _, _, _, _, _, _, _, _, _, _, _, _, _, _, _, _, _, _, _, _, _, _, _, _, _, _, _, _, _, _, _, _, _, _, _, _, _, _, _, _, _, _, _, _, _, _], defers := _ } _
          refine wpAnyH_take (i := 4) (v := .slice la k lc) rfl (by kernel_rfl) (by kernel_rfl) (by kernel_rfl) (fun _ _ _ h => h) (Or.inl ⟨by rfl, ?_⟩) H ?_
          · intro w' hSw; clear hSw; go_simp
          change wpAnyH _ _ _ _ _ _ _ { tmps := #[_, _, _, _, _, _, _, _, _, _, _, _, _, _, _, _, _, _, _, _, _, _, _, _, _, _, _, _, _, _, _, _, _, _, _, _, _, _, _, _, _, _, _, _, _, _, _, _, _, _, _, _, _, _, _, _, _, _, _, _, _, _, _, _, _, _, _, _, _, _, _, _, _, _, _, _, _, _, _, _, _, _, _, _, _, _, _, _, _, _, _, _, _, _, _, _, _, _, _, _, _, _], defers := _ } _
          refine wpAnyH_take (i := 7) (v := .string T) rfl (by kernel_rfl) (by kernel_rfl) (by kernel_rfl) (fun _ _ _ h => h) (Or.inl ⟨by rfl, ?_⟩) H ?_
          · intro w' hSw; clear hSw; go_simp
          change wpAnyH _ _ _ _ _ _ _ { tmps := #[_, _, _, _, _, _, _, _, _, _, _, _, _, _, _, _, _, _, _, _, _, _, _, _, _, _, _, _, _, _, _, _, _, _, _, _, _, _, _, _, _, _, _, _, _, _, _, _, _, _, _, _, _, _, _, _, _, _, _, _, _, _, _, _, _, _, _, _, _, _, _, _, _, _, _, _, _, _, _, _, _, _, _, _, _, _, _, _, _, _, _, _, _, _, _, _, _, _, _, _, _, _], defers := _ } _
          refine wpAnyH_ready (rs := [5]) (by kernel_rfl) (by simp) ?_
          refine (AllReadyH.cons rfl (fun KK hK => ?_) AllReadyH.nil)
          go_simp
          refine (BY.out _ RV.out).mono ?_
          rintro e z2 ⟨⟨gb, gc, rfl, hrl⟩, hb⟩
          replace RV : Hid (EO z2 w.heap.size 37 3 (.slice la k lc) k (fiF (fiR f))) := RV.out.below hb
          have hcv := KC.out _ _ gb gc hrl
          replace H : Below w.heap.size w z2 := H.trans (hb.mono H.size)
          clear hb hrl BY
          refine hK.out _ _ H (fun _ => ?_)
          clear hK KK
          change wpAnyH _ _ _ _ _ _ _ { tmps := #[_, _, _, _, _, _, _, _, _, _, _, _, _, _, _, _, _, _, _, _, _, _, _, _, _, _, _, _, _, _, _, _, _, _, _, _, _, _, _, _, _, _, _, _, _, _, _, _, _, _, _, _, _, _, _, _, _, _, _, _, _, _, _, _, _, _, _, _, _, _, _, _, _, _, _, _, _, _, _, _, _, _, _, _, _, _, _, _, _, _, _, _, _, _, _, _, _, _, _, _, _, _], defers := _ } _
          refine wpAnyH_take (i := 10) (v := .slice la k lc) rfl (by kernel_rfl) (by kernel_rfl) (by kernel_rfl) (fun _ _ _ h => h) (Or.inl ⟨by rfl, ?_⟩) H ?_
          · intro w' hSw; clear hSw; go_simp
          change wpAnyH _ _ _ _ _ _ _ { tmps := #[_, _, _, _, _, _, _, _, _, _, _, _, _, _, _, _, _, _, _, _, _, _, _, _, _, _, _, _, _, _, _, _, _, _, _, _, _, _, _, _, _, _, _, _, _, _, _, _, _, _, _, _, _, _, _, _, _, _, _, _, _, _, _, _, _, _, _, _, _, _, _, _, _, _, _, _, _, _, _, _, _, _, _, _, _, _, _, _, _, _, _, _, _, _, _, _, _, _, _, _, _, _], defers := _ } _
          refine wpAnyH_ready (rs := [6]) (by kernel_rfl) (by simp) ?_
          refine (AllReadyH.cons rfl (fun KK hK => ?_) AllReadyH.nil)
          go_simp
          refine hK.out _ _ H (fun _ => ?_)
          clear hK KK
          change wpAnyH _ _ _ _ _ _ _ { tmps := #[_, _, _, _, _, _, _, _, _, _, _, _, _, _, _, _, _, _, _, _, _, _, _, _, _, _, _, _, _, _, _, _, _, _, _, _, _, _, _, _, _, _, _, _, _, _, _, _, _, _, _, _, _, _, _, _, _, _, _, _, _, _, _, _, _, _, _, _, _, _, _, _, _, _, _, _, _, _, _, _, _, _, _, _, _, _, _, _, _, _, _, _, _, _, _, _, _, _, _, _, _, _], defers := _ } _
          refine wpAnyH_take (i := 8) (v := .bool BB) rfl (by kernel_rfl) (by kernel_rfl) (by kernel_rfl) (fun _ _ _ h => h) (Or.inl ⟨by rfl, ?_⟩) H ?_
          · intro w' hSw; clear hSw; go_simp
          change wpAnyH _ _ _ _ _ _ _ { tmps := #[_, _, _, _, _, _, _, _, _, _, _, _, _, _, _, _, _, _, _, _, _, _, _, _, _, _, _, _, _, _, _, _, _, _, _, _, _, _, _, _, _, _, _, _, _, _, _, _, _, _, _, _, _, _, _, _, _, _, _, _, _, _, _, _, _, _, _, _, _, _, _, _, _, _, _, _, _, _, _, _, _, _, _, _, _, _, _, _, _, _, _, _, _, _, _, _, _, _, _, _, _, _], defers := _ } _
          refine wpAnyH_take (i := 9) (v := .bool BB) rfl (by kernel_rfl) (by kernel_rfl) (by kernel_rfl) (fun _ _ _ h => h) (Or.inl ⟨by rfl, ?_⟩) H ?_
          · intro w' hSw; clear hSw; go_simp
          change wpAnyH _ _ _ _ _ _ _ { tmps := #[_, _, _, _, _, _, _, _, _, _, _, _, _, _, _, _, _, _, _, _, _, _, _, _, _, _, _, _, _, _, _, _, _, _, _, _, _, _, _, _, _, _, _, _, _, _, _, _, _, _, _, _, _, _, _, _, _, _, _, _, _, _, _, _, _, _, _, _, _, _, _, _, _, _, _, _, _, _, _, _, _, _, _, _, _, _, _, _, _, _, _, _, _, _, _, _, _, _, _, _, _, _], defers := _ } _
          refine wpAnyH_take (i := 11) (v := .bool BB) rfl (by kernel_rfl) (by kernel_rfl) (by kernel_rfl) (fun _ _ _ h => h) (Or.inl ⟨by rfl, ?_⟩) H ?_
          · intro w' hSw; clear hSw; go_simp
          change wpAnyH _ _ _ _ _ _ _ { tmps := #[_, _, _, _, _, _, _, _, _, _, _, _, _, _, _, _, _, _, _, _, _, _, _, _, _, _, _, _, _, _, _, _, _, _, _, _, _, _, _, _, _, _, _, _, _, _, _, _, _, _, _, _, _, _, _, _, _, _, _, _, _, _, _, _, _, _, _, _, _, _, _, _, _, _, _, _, _, _, _, _, _, _, _, _, _, _, _, _, _, _, _, _, _, _, _, _, _, _, _, _, _, _], defers := _ } _
          refine wpAnyH_done (by kernel_rfl) ?_ _
          refine NoPanic.normal ?_
          have B9 : Hid (Below w.heap.size w z2) := H
          clear H
          go_wp2
          go_ret2
          exact ⟨⟨_, _, _, _, rfl, HBB.out, fun _ => C0.out, RV.out⟩, B9.out⟩
        · have HG : Hid (¬ GoodR T.size f) := fun g => by
            have h0 := C0.out
            subst h0
            exact hok g.2.2.1
          have HOK : Hid (¬ FsOk k (fiR f)) := hok
          clear hok HST HS
          go_upto_region 20 with fail
          have H : Below w.heap.size w wr.drew := Bd.out
          refine wp_region_noPanic ?_
          refine wp_region_held_drew (S := fun w' => Below w.heap.size w w') (by kernel_rfl) H (fun _ => ?_)
          generalize wr.drew = z0 at *
          refine wpAnyH_take (i := 0) (v := .slice la k lc) rfl (by kernel_rfl) (by kernel_rfl) (by kernel_rfl) (fun _ _ _ h => h) (Or.inl ⟨by rfl, ?_⟩) H ?_
          · intro w' hSw; clear hSw; go_simp
          change wpAnyH _ _ _ _ _ _ _ { tmps := #[_, _, _, _, _, _, _, _, _, _, _, _, _, _, _, _, _, _, _, _, _, _, _, _, _, _, _, _, _, _, _, _, _, _, _, _, _, _, _, _, _, _, _, _, _, _, _, _, _, _, _, _, _, _, _, _, _, _, _, _, _, _, _, _, _, _, _, _, _, _, _, _, _, _, _, _, _, _, _, _, _, _, _, _, _, _, _, _, _, _, _, _, _, _, _, _, _, _, _, _, _, _], defers := _ } _
          refine wpAnyH_take (i := 1) (v := .slice la k lc) rfl (by kernel_rfl) (by kernel_rfl) (by kernel_rfl) (fun _ _ _ h => h) (Or.inl ⟨by rfl, ?_⟩) H ?_
          · intro w' hSw; clear hSw; go_simp
          change wpAnyH _ _ _ _ _ _ _ { tmps := #[_, _, _, _, _, _, _, _, _, _, _, _, _, _, _, _, _, _, _, _, _, _, _, _, _, _, _, _, _, _, _, _, _, _, _, _, _, _, _, _, _, _, _, _, _, _, _, _, _, _, _, _, _, _, _, _, _, _, _, _, _, _, _, _, _, _, _, _, _, _, _, _, _, _, _, _, _, _, _, _, _, _, _, _, _, _, _, _, _, _, _, _, _, _, _, _, _, _, _, _, _, _], defers := _ } _
          refine wpAnyH_ready (rs := [2]) (by kernel_rfl) (by simp) ?_
          refine (AllReadyH.cons rfl (fun KK hK => ?_) AllReadyH.nil)
          go_simp
          refine (FO.out _ RV.out).mono ?_
          rintro e z1 ⟨⟨yb, rfl, hyb⟩, hb⟩
          obtain rfl : yb = false := by cases yb with | false => rfl | true => exact absurd (hyb.1 rfl) HOK.out
          replace RV : Hid (EO z1 w.heap.size 37 3 (.slice la k lc) k (fiF (fiR f))) := RV.out.below hb
          replace H : Below w.heap.size w z1 := H.trans (hb.mono H.size)
          clear hb hyb FO
          refine hK.out _ _ H (fun _ => ?_)
          clear hK KK
          change wpAnyH _ _ _ _ _ _ _ { tmps := #[_, _, _, _, _, _, _, _, _, _, _, _, _, _, _, _, _, _, _, _, _, _, _, _, _, _, _, _, _, _, _, _, _, _, _, _, _, _, _, _, _, _, _, _, _, _, _, _, _, _, _, _, _, _, _, _, _, _, _, _, _, _, _, _, _, _, _, _, _, _, _, _, _, _, _, _, _, _, _, _, _, _, _, _, _, _, _, _, _, _, _, _, _, _, _, _, _, _, _, _, _, _], defers := _ } _
          refine wpAnyH_take (i := 3) (v := .bool false) rfl (by kernel_rfl) (by kernel_rfl) (by kernel_rfl) (fun _ _ _ h => h) (Or.inl ⟨by rfl, ?_⟩) H ?_
          · intro w' hSw; clear hSw; go_simp
          change wpAnyH _ _ _ _ _ _ _ { tmps := #[_, _, _, _, _, _, _, _, _, _, _, _, _, _, _, _, _, _, _, _, _, _, _, _, _, _, _, _, _, _, _, _, _, _, _, _, _, _, _, _, _, _, _, _, _, _, _, _, _, _, _, _, _, _, _, _, _, _, _, _, _, _, _, _, _, _, _, _, _, _, _, _, _, _, _, _, _, _, _, _, _, _, _, _, _, _, _, _, _, _, _, _, _, _, _, _, _, _, _, _, _, _], defers := _ } _
          refine wpAnyH_take (i := 4) (v := undef) rfl (by kernel_rfl) (by kernel_rfl) (by kernel_rfl) (fun _ _ _ h => h) (Or.inr ⟨by rfl, rfl⟩) H ?_
          change wpAnyH _ _ _ _ _ _ _ { tmps := #[_, _, _, _, _, _, _, _, _, _, _, _, _, _, _, _, _, _, _, _, _, _, _, _, _, _, _, _, _, _, _, _, _, _, _, _, _, _, _, _, _, _, _, _, _, _, _, _, _, _, _, _, _, _, _, _, _, _, _, _, _, _, _, _, _, _, _, _, _, _, _, _, _, _, _, _, _, _, _, _, _, _, _, _, _, _, _, _, _, _, _, _, _, _, _, _, _, _, _, _, _, _], defers := _ } _
          refine wpAnyH_take (i := 5) (v := undef) rfl (by kernel_rfl) (by kernel_rfl) (by kernel_rfl) (fun _ _ _ h => h) (Or.inr ⟨by rfl, rfl⟩) H ?_
          change wpAnyH _ _ _ _ _ _ _ { tmps := #[_, _, _, _, _, _, _, _, _, _, _, _, _, _, _, _, _, _, _, _, _, _, _, _, _, _, _, _, _, _, _, _, _, _, _, _, _, _, _, _, _, _, _, _, _, _, _, _, _, _, _, _, _, _, _, _, _, _, _, _, _, _, _, _, _, _, _, _, _, _, _, _, _, _, _, _, _, _, _, _, _, _, _, _, _, _, _, _, _, _, _, _, _, _, _, _, _, _, _, _, _, _], defers := _ } _
          refine wpAnyH_take (i := 6) (v := undef) rfl (by kernel_rfl) (by kernel_rfl) (by kernel_rfl) (fun _ _ _ h => h) (Or.inr ⟨by rfl, rfl⟩) H ?_
          change wpAnyH _ _ _ _ _ _ _ { tmps := #[_, _, _, _, _, _, _, _, _, _, _, _, _, _, _, _, _, _, _, _, _, _, _, _, _, _, _, _, _, _, _, _, _, _, _, _, _, _, _, _, _, _, _, _, _, _, _, _, _, _, _, _, _, _, _, _, _, _, _, _, _, _, _, _, _, _, _, _, _, _, _, _, _, _, _, _, _, _, _, _, _, _, _, _, _, _, _, _, _, _, _, _, _, _, _, _, _, _, _, _, _, _], defers := _ } _
          refine wpAnyH_take (i := 7) (v := undef) rfl (by kernel_rfl) (by kernel_rfl) (by kernel_rfl) (fun _ _ _ h => h) (Or.inr ⟨by rfl, rfl⟩) H ?_
          change wpAnyH _ _ _ _ _ _ _ { tmps := #[_, _, _, _, _, _, _, _, _, _, _, _, _, _, _, _, _, _, _, _, _, _, _, _, _, _, _, _, _, _, _, _, _, _, _, _, _, _, _, _, _, _, _, _, _, _, _, _, _, _, _, _, _, _, _, _, _, _, _, _, _, _, _, _, _, _, _, _, _, _, _, _, _, _, _, _, _, _, _, _, _, _, _, _, _, _, _, _, _, _, _, _, _, _, _, _, _, _, _, _, _, _], defers := _ } _
          refine wpAnyH_take (i := 8) (v := undef) rfl (by kernel_rfl) (by kernel_rfl) (by kernel_rfl) (fun _ _ _ h => h) (Or.inr ⟨by rfl, rfl⟩) H ?_
          change wpAnyH _ _ _ _ _ _ _ { tmps := #[_, _, _, _, _, _, _, _, _, _, _, _, _, _, _, _, _, _, _, _, _, _, _, _, _, _, _, _, _, _, _, _, _, _, _, _, _, _, _, _, _, _, _, _, _, _, _, _, _, _, _, _, _, _, _, _, _, _, _, _, _, _, _, _, _, _, _, _, _, _, _, _, _, _, _, _, _, _, _, _, _, _, _, _, _, _, _, _, _, _, _, _, _, _, _, _, _, _, _, _, _, _], defers := _ } _
          refine wpAnyH_take (i := 9) (v := .bool false) rfl (by kernel_rfl) (by kernel_rfl) (by kernel_rfl) (fun _ _ _ h => h) (Or.inl ⟨by rfl, ?_⟩) H ?_
          · intro w' hSw; clear hSw; go_simp
          change wpAnyH _ _ _ _ _ _ _ { tmps := #[_, _, _, _, _, _, _, _, _, _, _, _, _, _, _, _, _, _, _, _, _, _, _, _, _, _, _, _, _, _, _, _, _, _, _, _, _, _, _, _, _, _, _, _, _, _, _, _, _, _, _, _, _, _, _, _, _, _, _, _, _, _, _, _, _, _, _, _, _, _, _, _, _, _, _, _, _, _, _, _, _, _, _, _, _, _, _, _, _, _, _, _, _, _, _, _, _, _, _, _, _, _], defers := _ } _
          refine wpAnyH_take (i := 10) (v := .slice la k lc) rfl (by kernel_rfl) (by kernel_rfl) (by kernel_rfl) (fun _ _ _ h => h) (Or.inl ⟨by rfl, ?_⟩) H ?_
          · intro w' hSw; clear hSw; go_simp
          change wpAnyH _ _ _ _ _ _ _ { tmps := #[_, _, _, _, _, _, _, _, _, _, _, _, _, _, _, _, _, _, _, _, _, _, _, _, _, _, _, _, _, _, _, _, _, _, _, _, _, _, _, _, _, _, _, _, _, _, _, _, _, _, _, _, _, _, _, _, _, _, _, _, _, _, _, _, _, _, _, _, _, _, _, _, _, _, _, _, _, _, _, _, _, _, _, _, _, _, _, _, _, _, _, _, _, _, _, _, _, _, _, _, _, _], defers := _ } _
          refine wpAnyH_take (i := 11) (v := .bool false) rfl (by kernel_rfl) (by kernel_rfl) (by kernel_rfl) (fun _ _ _ h => h) (Or.inl ⟨by rfl, ?_⟩) H ?_
          · intro w' hSw; clear hSw; go_simp
          change wpAnyH _ _ _ _ _ _ _ { tmps := #[_, _, _, _, _, _, _, _, _, _, _, _, _, _, _, _, _, _, _, _, _, _, _, _, _, _, _, _, _, _, _, _, _, _, _, _, _, _, _, _, _, _, _, _, _, _, _, _, _, _, _, _, _, _, _, _, _, _, _, _, _, _, _, _, _, _, _, _, _, _, _, _, _, _, _, _, _, _, _, _, _, _, _, _, _, _, _, _, _, _, _, _, _, _, _, _, _, _, _, _, _, _], defers := _ } _
          refine wpAnyH_done (by kernel_rfl) ?_ _
          refine NoPanic.normal ?_
          have B9 : Hid (Below w.heap.size w z1) := H
          clear H
          go_wp2
          go_ret2
          exact ⟨⟨_, _, _, _, rfl, by simp [HG.out], fun _ => C0.out, RV.out⟩, B9.out⟩
theorem retFs_lit (w : World) (cd : Int) (B : Nat) (hB : B ≤ w.heap.size) (G : Nat → Fi) : RetFs 0 G cd B (.returned (.tuple #[.slice (some ⟨w.heap.size, 0, none⟩) 0 0, .int .i64 cd])) (w.alloc (.cells #[] 37)) := ⟨_, _, rfl, EO.lit w B _ 3 hB _⟩
set_option maxRecDepth 100000 in
set_option maxHeartbeats 2000000 in
theorem specRf_any (a : Option Addr) (N c : Nat) (f : Nat → Nat) (hf : ∀ i, f i < 256) (w : World) (h : Code8 w a N f) :
    Calls Try.prog 28 #[.slice a N c] w fun e w' => (∃ m G cd, RfIs N f m G cd ∧ RetFs m G cd w.heap.size e w') ∧ Below w.heap.size w w' := by
  by_cases hL : 65536 < N
  · have g0 : (65536 : Int) < (N : Int) := by omega
    have HX : Hid (RfIs N f 0 (fiR f) 2) := .inl ⟨hL, rfl, rfl⟩
    clear h hL
    go_enter Try.func28, Try.ntmps28
    go_wp2
    go_ret2
    exact ⟨⟨_, _, _, HX.out, retFs_lit _ _ _ (Nat.le_refl _) _⟩, (Below.refl _ _).alloc (Nat.le_refl _) _⟩
  · have g0 : ¬ (65536 : Int) < (N : Int) := by omega
    have cv := convAny (c := c) h
    have HZ : (kstr f 0 N).size = N := kstr_size _ _ _
    have RD : Hid (Calls Try.prog 62 #[.string (kstr f 0 N)] w fun e w' => RetRf f N w.heap.size e w' ∧ Below w.heap.size w w') := by
      have := l11Read_any (kstr f 0 N) f hf (fun i hi => by rw [HZ] at hi; rw [strB_kstr _ _ _ _ (by rw [Nat.zero_add]; exact hf i) hi, Nat.zero_add]) (by omega) w
      rwa [HZ] at this
    have HL : Hid (¬ 65536 < N) := hL
    clear h hL hf HZ
    generalize kstr f 0 N = T at *
    go_enter Try.func28, Try.ntmps28
    go_wp2_with fail
    refine (Calls.mono RD.out) ?_
    rintro e v1 ⟨⟨la, m, lc, ok, rfl, h1, h2, h3⟩, hb⟩
    have B1 : Hid (Below w.heap.size w v1) := hb
    have E1 : Hid (EO v1 w.heap.size 37 3 (.slice la m lc) m (fiF (fiR f))) := h3
    have HG : Hid ((ok = true ↔ GoodR N f) ∧ (ok = true → m = f 0)) := ⟨h1, h2⟩
    clear hb h1 h2 h3 RD cv
    cases ok with
    | true =>
      have HX : Hid (RfIs N f m (fiR f) 0) := .inr ⟨HL.out, .inl ⟨HG.out.1.1 rfl, rfl, HG.out.2 rfl, fun _ _ => rfl⟩⟩
      clear HG
      go_wp2
      go_ret2
      exact ⟨⟨_, _, _, HX.out, ⟨_, _, rfl, E1.out⟩⟩, B1.out⟩
    | false =>
      have HX : Hid (RfIs N f 0 (fiR f) 3) := .inr ⟨HL.out, .inr ⟨(fun g => by have := HG.out.1.2 g; cases this), rfl, rfl⟩⟩
      clear HG
      go_wp2
      go_ret2
      exact ⟨⟨_, _, _, HX.out, retFs_lit _ _ _ B1.out.size _⟩, B1.out.alloc B1.out.size _⟩
end Go.Proofs.Ytbdoablokoghbaa

/-
  The law FnFileBytes: files are read back from their bytes, and any bytes that are read are just those of what was read.
-/
namespace Go.Proofs.Ytbdoablokoghbaa
open Go.ChangeShapes Go.WideShapes Go.ChangeAt Go.RowKit
set_option linter.unusedVariables false
theorem RL.capF {w : World} {B g c : Nat} {L : List Nat} (h : RL w B g c L) : L.length ≤ c := by
  obtain ⟨hl, ⟨h1, _⟩ | ⟨g', cap, cur, hv, hB, hh, hs, hcap, _⟩⟩ := h
  · cases h1
  · cases hv
    first | exact hcap | omega
theorem code8F {w : World} {B g c : Nat} {L : List Nat} (h : RL w B g c L) : Code8 w (some ⟨g, 0, none⟩) L.length (fun i => L.getD i 0) := fun i hi => ⟨g, 0, rfl, by
  rw [Nat.zero_add, h.cell i hi]
  simp [hi]⟩
theorem isRow_capF {k : IntKind} {w : World} {a : Option Addr} {len cap : Nat} {zs : List Int} (h : IsRow k w a len cap zs) : len ≤ cap := by
  rcases h with ⟨_, h1, h2, _⟩ | ⟨x, _, hl, _⟩
  · omega
  · exact hl
theorem ByIs.ok {n : Nat} {F : Nat → Fi} {L : List Nat} {c : Int} (h : ByIs n F L c) (hF : FsOk n F) : L = filL n F ∧ c = 0 := by
  have := hF.1
  rcases h with ⟨h1, _⟩ | ⟨_, ⟨h1, _⟩ | ⟨_, h2, h3⟩⟩
  · omega
  · exact absurd hF h1
  · exact ⟨h3, h2⟩
/-- The bytes of files of the call's own are handed back. -/
def RetFb (n : Nat) (F : Nat → Fi) (B : Nat) (e : Ending) (w : World) : Prop := ∃ g c, e = .returned (.tuple #[.slice (some ⟨g, 0, none⟩) (filL n F).length c, .int .i64 0]) ∧ RL w B g c (filL n F)
theorem RetBy.fb {n : Nat} {F : Nat → Fi} {L : List Nat} {cd : Int} {B : Nat} {e : Ending} {w : World} (h : RetBy L cd B e w) (hI : ByIs n F L cd) (hF : FsOk n F) : RetFb n F B e w := by
  obtain ⟨rfl, rfl⟩ := hI.ok hF
  rcases h with ⟨h1, _⟩ | ⟨g, c, h1, h2⟩
  · exact absurd h1 (by unfold filL; simp)
  · exact ⟨g, c, h1, h2⟩
theorem filF_lt {n : Nat} {F : Nat → Fi} (hF : FsOk n F) (i : Nat) : filF n F i < 256 := by
  unfold filF
  rw [List.getD]
  rcases q : (filL n F)[i]? with _ | x
  · simp
  · have := filL_lt hF x (List.mem_of_getElem? q)
    simpa using this
theorem rfIs_exF (N : Nat) (f : Nat → Nat) : ∃ (m : Nat) (G : Nat → Fi) (cd : Int), RfIs N f m G cd := by
  by_cases h : 65536 < N
  · exact ⟨0, fiR f, 2, .inl ⟨h, rfl, rfl⟩⟩
  · by_cases g : GoodR N f
    · exact ⟨f 0, fiR f, 0, .inr ⟨h, .inl ⟨g, rfl, rfl, fun _ _ => rfl⟩⟩⟩
    · exact ⟨0, fiR f, 3, .inr ⟨h, .inr ⟨g, rfl, rfl⟩⟩⟩
theorem implFb (o : Option Addr) (n c : Nat) (F : Nat → Fi) (hF : FsOk n F) (hs : SlP o n c) (u : World) (h : Els u 3 o n (fiF F)) : Calls Try.prog 25 #[.slice o n c] u fun e w' => RetFb n F u.heap.size e w' ∧ Below u.heap.size u w' := by
  have := hF.1
  refine (implBy_any o n c F (fun i hi => by have := (hF.2 i hi).1.1.1; omega) (by omega) hs u h).mono ?_
  rintro e w' ⟨⟨L, cd, hI, hR⟩, hb⟩
  exact ⟨hR.fb hI hF, hb⟩
theorem specFb (o : Option Addr) (n c : Nat) (F : Nat → Fi) (hF : FsOk n F) (u : World) (h : Els u 3 o n (fiF F)) : Calls Try.prog 26 #[.slice o n c] u fun e w' => RetFb n F u.heap.size e w' ∧ Below u.heap.size u w' := by
  have := hF.1
  refine (specBy_any o n c F (fun i hi => by have := (hF.2 i hi).1.1.1; omega) (by omega) u h).mono ?_
  rintro e w' ⟨⟨L, cd, hI, hR⟩, hb⟩
  exact ⟨hR.fb hI hF, hb⟩
theorem backFb (n : Nat) (F : Nat → Fi) (hF : FsOk n F) (g c B : Nat) (u : World) (h : RL u B g c (filL n F)) : Calls Try.prog 27 #[.slice (some ⟨g, 0, none⟩) (filL n F).length c] u fun e w' => RetFs n F 0 u.heap.size e w' ∧ Below u.heap.size u w' := by
  have hl := filL_le hF
  refine (implRf_any _ _ c (filF n F) (filF_lt hF) (by omega) h.capF u (code8F h)).mono ?_
  rintro e w' ⟨⟨m, G, cd, hI, a, c9, rfl, hE⟩, hb⟩
  obtain ⟨rfl, rfl, hG⟩ := hI.uniq (rfIs_filF hF (by omega))
  exact ⟨⟨a, c9, rfl, hE.congr (fiF_congr hG)⟩, hb⟩
set_option maxRecDepth 100000 in
set_option maxHeartbeats 4000000 in
theorem law_fnFileBytes (a0 : Option Addr) (l0 c0 : Nat) (z0 : Nat → Nat) (hm0 : l0 ≤ maxLen) (hlc : l0 ≤ c0) (hz0 : ∀ i, z0 i < 256) (w : World) (hv0 : Code8 w a0 l0 z0) :
    Calls Try.prog 5 #[.slice a0 l0 c0] w fun e w' => e = .returned (.bool true) ∧ Below w.heap.size w w' := by
  by_cases b0 : 1048576 < l0
  · have bb0 : (1048576 : Int) < (l0 : Int) := by omega
    clear hv0 hm0 hz0 hlc
    go_enter Try.func5, Try.ntmps5
    go_wp2
    go_ret
    exact ⟨rfl, Below.refl _ _⟩
  · have bb0 : ¬ (1048576 : Int) < (l0 : Int) := by omega
    have FO : Hid (Calls Try.prog 6 #[.slice a0 l0 c0] w fun e w' => (∃ (o : Option Addr) (m c : Nat) (F : Nat → Fi), e = .returned (.slice o m c) ∧ FsOk m F ∧ EO w' w.heap.size 37 3 (.slice o m c) m (fiF F)) ∧ Below w.heap.size w w') := filesOf_ex a0 l0 c0 z0 hz0 hm0 w hv0
    obtain ⟨N2, G2, cd, hRf⟩ : ∃ m G cd, RfIs l0 z0 m G cd := rfIs_exF l0 z0
    have RI : Hid (∀ u : World, Below w.heap.size w u → Calls Try.prog 27 #[.slice a0 l0 c0] u fun e w' => RetFs N2 G2 cd u.heap.size e w' ∧ Below u.heap.size u w') := by
      intro u hu
      refine (implRf_any _ _ c0 z0 hz0 (by omega) hlc u (hv0.below hu)).mono ?_
      rintro e w' ⟨⟨m, G, cd', hI, a, c9, rfl, hE⟩, hb⟩
      obtain ⟨rfl, rfl, hG⟩ := hI.uniq hRf
      exact ⟨⟨a, c9, rfl, hE.congr (fiF_congr hG)⟩, hb⟩
    have RS : Hid (∀ u : World, Below w.heap.size w u → Calls Try.prog 28 #[.slice a0 l0 c0] u fun e w' => RetFs N2 G2 cd u.heap.size e w' ∧ Below u.heap.size u w') := by
      intro u hu
      refine (specRf_any _ _ c0 z0 hz0 u (hv0.below hu)).mono ?_
      rintro e w' ⟨⟨m, G, cd', hI, a, c9, rfl, hE⟩, hb⟩
      obtain ⟨rfl, rfl, hG⟩ := hI.uniq hRf
      exact ⟨⟨a, c9, rfl, hE.congr (fiF_congr hG)⟩, hb⟩
    have HK : Hid (cd = 0 → FsOk N2 G2 ∧ filL N2 G2 = byL l0 z0 ∧ 0 < l0) := fun e => by
      rcases hRf with ⟨_, e', _⟩ | ⟨_, ⟨hg, _, e2, hG⟩ | ⟨_, e', _⟩⟩
      · omega
      · subst e2
        refine ⟨fsOk_congr (fun i hi => (hG i hi).symm) hg.2.2.1, ?_, hg.1⟩
        rw [← hg.2.2.2]
        unfold filL
        rw [flatF_congr hG]
      · omega
    have HC : Hid (Code8 w a0 l0 z0) := hv0
    clear hv0 hz0 hm0 b0 hRf hlc
    go_enter Try.func5, Try.ntmps5
    go_wp2_with fail
    refine FO.out.mono ?_
    rintro e w1 ⟨⟨o, n, c, F, rfl, hF, hE⟩, hb⟩
    have HF : Hid (FsOk n F) := hF
    have HE : Hid (Els w1 3 o n (fiF F)) := hE.els
    have HS : Hid (SlP o n c) := hE.slp
    have A1 : Hid (Below w.heap.size w w1) := hb
    have hn : n ≤ 12 := hF.1
    clear hE hF hb FO
    go_wp2_with fail
    refine (implFb o n c F HF.out HS.out w1 HE.out).mono ?_
    rintro e w2 ⟨⟨g1, k1, rfl, hR⟩, hb⟩
    have R1 : Hid (RL w2 w1.heap.size g1 k1 (filL n F)) := hR
    replace HE : Hid (Els w2 3 o n (fiF F)) := HE.out.below hb
    replace A1 : Hid (Below w.heap.size w w2) := A1.out.trans (hb.mono A1.out.size)
    clear hR hb
    go_wp2_with fail
    refine (specFb o n c F HF.out w2 HE.out).mono ?_
    rintro e w3 ⟨⟨g2, k2, rfl, hR⟩, hb⟩
    have R2 : Hid (RL w3 w2.heap.size g2 k2 (filL n F)) := hR
    replace R1 : Hid (RL w3 w1.heap.size g1 k1 (filL n F)) := R1.out.below hb
    replace HE : Hid (Els w3 3 o n (fiF F)) := HE.out.below hb
    replace A1 : Hid (Below w.heap.size w w3) := A1.out.trans (hb.mono A1.out.size)
    clear hR hb
    go_wp2_with fail
    refine (backFb n F HF.out g1 k1 _ w3 R1.out).mono ?_
    rintro e w4 ⟨⟨o4, c4, rfl, hE4⟩, hb⟩
    have HE4 : Hid (Els w4 3 o4 n (fiF F)) := hE4.els
    have q1 : (convert 22 9 (.slice (some ⟨g1, 0, none⟩) (filL n F).length k1)).run Try.prog w4 = .ok (.string (kstr (filF n F) 0 (filL n F).length)) w4 := kstr_of_code (code8F (R1.out.below hb))
    have q2 : (convert 22 9 (.slice (some ⟨g2, 0, none⟩) (filL n F).length k2)).run Try.prog w4 = .ok (.string (kstr (filF n F) 0 (filL n F).length)) w4 := kstr_of_code (code8F (R2.out.below hb))
    replace HE : Hid (Els w4 3 o n (fiF F)) := HE.out.below hb
    replace A1 : Hid (Below w.heap.size w w4) := A1.out.trans (hb.mono A1.out.size)
    clear hE4 hb R1 R2
    generalize kstr (filF n F) 0 (filL n F).length = K at *
    go_wp2_with fail
    refine (sameFiles_any o4 o n n c4 c F F (by omega) (by omega) w4 HE4.out HE.out).mono ?_
    rintro e w5 ⟨⟨y, rfl, hy⟩, hb⟩
    obtain rfl : y = true := hy.2 ⟨rfl, fun i _ => rfl⟩
    replace A1 : Hid (Below w.heap.size w w5) := A1.out.trans (hb.mono A1.out.size)
    clear hy hb HE HE4 q1 q2
    go_wp2_with fail
    refine (RI.out w5 A1.out).mono ?_
    rintro e w6 ⟨⟨o6, c6, rfl, hE6⟩, hb⟩
    have HE6 : Hid (Els w6 3 o6 N2 (fiF G2)) := hE6.els
    have HS6 : Hid (SlP o6 N2 c6) := hE6.slp
    replace A1 : Hid (Below w.heap.size w w6) := A1.out.trans (hb.mono A1.out.size)
    clear hE6 hb RI
    go_wp2_with fail
    refine (RS.out w6 A1.out).mono ?_
    rintro e w7 ⟨⟨o7, c7, rfl, hE7⟩, hb⟩
    replace HE6 : Hid (Els w7 3 o6 N2 (fiF G2)) := HE6.out.below hb
    replace A1 : Hid (Below w.heap.size w w7) := A1.out.trans (hb.mono A1.out.size)
    have ne : (cd != cd) = false := by simp
    clear hE7 hb RS
    by_cases hcd : cd = 0
    · obtain ⟨hF2, hL2, hpos⟩ := HK.out hcd
      have HF2 : Hid (FsOk N2 G2) := hF2
      have HL2 : Hid (filL N2 G2 = byL l0 z0) := hL2
      have HP : Hid (0 < l0) := hpos
      subst hcd
      clear hF2 hL2 hpos HK ne
      go_wp2_with fail
      refine (implFb o6 N2 c6 G2 HF2.out HS6.out w7 HE6.out).mono ?_
      rintro e w8 ⟨⟨g8, k8, rfl, hR⟩, hb⟩
      replace A1 : Hid (Below w.heap.size w w8) := A1.out.trans (hb.mono A1.out.size)
      have q1 : (convert 22 9 (.slice (some ⟨g8, 0, none⟩) (filL N2 G2).length k8)).run Try.prog w8 = .ok (.string (kstr (filF N2 G2) 0 (filL N2 G2).length)) w8 := kstr_of_code (code8F hR)
      rw [filF_text HL2.out] at q1
      have q2 : (convert 22 9 (.slice a0 l0 c0)).run Try.prog w8 = .ok (.string (kstr z0 0 l0)) w8 := by
        have hc := HC.out.below A1.out
        obtain ⟨b, o, rfl, _⟩ := hc.opened HP.out
        exact kstr_of_code hc
      generalize kstr z0 0 l0 = K2 at *
      clear hR hb
      go_wp2
      go_ret
      exact ⟨rfl, A1.out⟩
    · have hcb : (cd != 0) = true := by simpa using hcd
      clear HK
      go_wp2
      go_ret
      exact ⟨rfl, A1.out⟩
end Go.Proofs.Ytbdoablokoghbaa
