/-
  A drive at work: what waits in the Cache goes to the blocks.
-/
import Derived.Test.YtgdfhgepbamhmaaDoorDriveOps
namespace Go.Proofs.YtgdfhgepbamhmaaDoor
open Go.ChangeShapes Go.WideShapes Go.ChangeAt Go.RowKit
theorem nodup_le : ∀ (S T : List Int), S.Nodup → (∀ a ∈ S, a ∈ T) → S.length ≤ T.length
  | [], _, _, _ => Nat.zero_le _
  | a :: S, T, hn, h => by
    have ha := h a (List.mem_cons_self)
    have hn' := List.nodup_cons.1 hn
    have := nodup_le S (T.erase a) hn'.2 (fun x hx => (List.mem_erase_of_ne (fun e : x = a => hn'.1 (e ▸ hx))).2 (h x (List.mem_cons_of_mem _ hx)))
    rw [List.length_erase_of_mem ha] at this
    have : 0 < T.length := List.length_pos_of_mem ha
    show S.length + 1 ≤ _
    omega
theorem RangeI.sub {w : World} {b r : Nat} {M : Int → Option Value} {S S' : List Int} (h : RangeI w b r M S) (h' : RangeI w b r M S') : ∀ a ∈ S, a ∈ S' := by
  obtain ⟨es, clock, seen, c0, hb, h1, h2, h3, hr, hc, hs, hn, hm⟩ := h
  obtain ⟨es', clock', seen', c0', hb', h1', h2', h3', hr', hc', hs', hn', hm'⟩ := h'
  rw [hb] at hb'
  cases hb'
  rw [hr] at hr'
  cases hr'
  intro a ha
  have := hm a ha
  obtain ⟨v, hv⟩ := Option.isSome_iff_exists.1 this
  obtain ⟨e, he, hk⟩ := h3 a v hv
  obtain ⟨a', ha', hk'⟩ := (hs' e he).1 ((hs e he).2 ⟨a, ha, hk⟩)
  rw [hk] at hk'
  cases hk'
  exact ha'
theorem RangeI.nodup {w : World} {b r : Nat} {M : Int → Option Value} {S : List Int} (h : RangeI w b r M S) : S.Nodup := by
  obtain ⟨es, clock, seen, c0, hb, h1, h2, h3, hr, hc, hs, hn, hm⟩ := h
  exact hn
theorem RangeI.mem {w : World} {b r : Nat} {M : Int → Option Value} {S : List Int} (h : RangeI w b r M S) : ∀ a ∈ S, (M a).isSome = true := by
  obtain ⟨es, clock, seen, c0, hb, h1, h2, h3, hr, hc, hs, hn, hm⟩ := h
  exact hm
open Classical in
/-- How many keys the range has handed out. -/
noncomputable def seenN (w : World) (b r : Nat) (M : Int → Option Value) : Nat := if h : ∃ S, RangeI w b r M S then h.choose.length else 0
theorem RangeI.seenN {w : World} {b r : Nat} {M : Int → Option Value} {S : List Int} (h : RangeI w b r M S) : seenN w b r M = S.length := by
  have hex : ∃ S, RangeI w b r M S := ⟨S, h⟩
  unfold Go.Proofs.YtgdfhgepbamhmaaDoor.seenN
  rw [dif_pos hex]
  exact Nat.le_antisymm (nodup_le _ _ hex.choose_spec.nodup (hex.choose_spec.sub h)) (nodup_le _ _ h.nodup (h.sub hex.choose_spec))
theorem lastM_some (A : Nat → Int) (D : Nat → ByteArray) (x : Int) : ∀ (k : Nat) (v : Value), lastM A D k x = some v → ∃ i, i < k ∧ A i = x
  | 0, _, h => by cases h
  | k + 1, v, h => by
    unfold lastM at h
    by_cases e : x = A k
    · exact ⟨k, by omega, e.symm⟩
    · rw [if_neg e] at h
      obtain ⟨i, hi, e'⟩ := lastM_some A D x k v h
      exact ⟨i, by omega, e'⟩
/-- d behind a sync. -/
def Dk.synced (d : Dk) : Dk := ⟨d.nb, d.rd, 0, d.A, d.D, d.ns, d.S⟩
open Classical in
noncomputable def Dk.half (d : Dk) (S : List Int) (i : Nat) : ByteArray := if (i : Int) ∈ S then d.rd i else d.B i
theorem nodup_bound (n : Nat) (S : List Int) (hn : S.Nodup) (h : ∀ a ∈ S, 0 ≤ a ∧ a < (n : Int)) : S.length ≤ n := by
  have := nodup_le S ((List.range n).map (fun i : Nat => (i : Int))) hn (fun a ha => List.mem_map.2 ⟨a.toNat, List.mem_range.2 (by have := h a ha; omega), by have := h a ha; omega⟩)
  simpa using this
set_option maxRecDepth 100000 in
set_option maxHeartbeats 4000000 in
theorem sync_anyK (B q b : Nat) (d : Dk) (v0 v1 v2 : Value) (hA : ∀ i, i < d.nc → 0 ≤ d.A i ∧ d.A i < d.nb) (hn : d.nb ≤ 64) (w : World) (hBw : B ≤ w.heap.size) (h : Drv w B q b d v0 v1 v2) :
    Calls Tryd.prog 41 #[.pointer (some ⟨q, 0, none⟩)] w fun e w' => e = .returned (.tuple #[]) ∧ Drv w' B q b d.synced v0 (.slice none 0 0) v2 ∧ Below B w w' ∧ KpD q b v0 v1 v2 v0 (.slice none 0 0) v2 w w' := by
  have HD : Hid (Drv w B q b d v0 v1 v2) := h
  have EC : Hid (∀ (v0 v1 v2 : Value) (M : Int → Option Value) (w : World), Box4 w q 58 v0 v1 v2 (.map (some b)) → MapI w b M → Calls Tryd.prog 51 #[.pointer (some ⟨q, 0, none⟩)] w fun e w' => e = .returned (.tuple #[]) ∧ Box4 w' q 58 v0 (.slice none 0 0) v2 (.map (some b)) ∧ MapI w' b (fun _ => none) ∧ Only2 q b w w') := fun v0 v1 v2 M w h1 h2 => emptyCache_any q b v0 v1 v2 M h.qb w h1 h2
  obtain ⟨a0, c0, rfl, -⟩ := h.t0.form
  have k3 := h.box.c3
  have hql := h.box.lt
  have hbl := h.m.lt
  obtain ⟨wr0, hrg, hR, hbR, hsR⟩ := MapI.ranged (P := Tryd.prog) h.m Tryd.underlying56
  have R0 : Hid (RangeI wr0 b w.heap.size (lastM d.A d.D d.nc) []) := hR
  have D0 : Hid (Drv wr0 B q b d (.slice a0 d.nb c0) v1 v2) := h.below hbR
  have B0 : Hid (Below B w wr0) := hbR.mono hBw
  have KX0 : Hid (∀ C, C < w.heap.size → NotD C q b (.slice a0 d.nb c0) v1 v2 → wr0.heap[C]? = w.heap[C]?) := fun C hC _ => hbR.block C hC
  have hs0 : w.heap.size < wr0.heap.size := by omega
  have N0 : Hid ((∀ g, (Value.slice a0 d.nb c0).ownBlock = some g → g < w.heap.size) ∧ (∀ g, v2.ownBlock = some g → g < w.heap.size)) := ⟨fun g e => (World.ownsRow.lt h.t0 g e).2, fun g e => (World.ownsRow.lt h.t2 g e).2⟩
  clear h hR hbR hsR
  go_enter Tryd.func41, Tryd.ntmps41
  go_wp2_with fail
  go_loopw [] (fun wr => ∃ S, RangeI wr b w.heap.size (lastM d.A d.D d.nc) S ∧ Box4 wr q 58 (.slice a0 d.nb c0) v1 v2 (.map (some b)) ∧ TxR wr B (.slice a0 d.nb c0) d.nb (d.half S) ∧ TxR wr B v2 d.ns d.S ∧ Below B w wr ∧ ∀ C, C < w.heap.size → NotD C q b (.slice a0 d.nb c0) v1 v2 → wr.heap[C]? = w.heap[C]?) (fun wr => d.nb - seenN wr b w.heap.size (lastM d.A d.D d.nc))
  case atStart => exact ⟨[], R0.out, D0.out.box, D0.out.t0.congr (fun i _ => by unfold Dk.half; rw [if_neg (by simp)]), D0.out.t2, B0.out, KX0.out⟩
  case round =>
    clear R0 D0 B0 k3 hrg hs0 KX0
    obtain ⟨S, hR, hX, hT, hU, hb, hkx⟩ := hrel
    have KX : Hid (∀ C, C < w.heap.size → NotD C q b (.slice a0 d.nb c0) v1 v2 → wr.heap[C]? = w.heap[C]?) := hkx
    clear hkx
    have B0 : Hid (Below B w wr) := hb
    have hsz0 := hb.size
    clear hb
    rcases hR.next (P := Tryd.prog) 0 with ⟨hall, hnx⟩ | ⟨a, v, w', hM, hnot, hnx, hR', hO, hsz, hen⟩
    · have HM : Hid (MapI wr b (lastM d.A d.D d.nc)) := hR.map
      have HX : Hid (Box4 wr q 58 (.slice a0 d.nb c0) v1 v2 (.map (some b))) := hX
      have HT : Hid (TxR wr B (.slice a0 d.nb c0) d.nb d.rd) := hT.congr (fun i _ => by
        unfold Dk.half
        by_cases e : (i : Int) ∈ S
        · rw [if_pos e]
        · rw [if_neg e]
          rcases lastM_rd d.A d.D (d.B i) (i : Int) d.nc with ⟨-, h2⟩ | h2
          · exact h2.symm
          · exact absurd (hall i (by rw [h2]; rfl)) e)
      have HU : Hid (TxR wr B v2 d.ns d.S) := hU
      clear hR hX hT hU hall
      go_wp2_with fail
      refine (EC.out _ _ _ _ _ HX.out HM.out).mono ?_
      rintro e w2 ⟨rfl, hX2, hM2, hO2⟩
      have HF : Hid (Drv w2 B q b d.synced (.slice a0 d.nb c0) (.slice none 0 0) v2) := ⟨hX2, ownsRow_only2 HT.out hO2 HD.out.s0.1 HD.out.s0.2, PnR.nil _ _ _ _, ownsRow_only2 HU.out hO2 HD.out.s2.1 HD.out.s2.2, hM2, HD.out.s0, ⟨by simp [Value.ownBlock], by simp [Value.ownBlock]⟩, HD.out.s2, HD.out.qb, fun g _ e => by simp [Value.ownBlock] at e, HD.out.n02, fun g e => by simp [Value.ownBlock] at e, HD.out.hq, HD.out.hb⟩
      have HB : Hid (Below B w w2) := B0.out.trans (hO2.toBelow HD.out.hq HD.out.hb (by omega))
      have KF : Hid (KpD q b (.slice a0 d.nb c0) v1 v2 (.slice a0 d.nb c0) (.slice none 0 0) v2 w w2) := fun C hC hN => ⟨(hO2.block C (by omega) hN.1 hN.2.1).trans (KX.out C hC hN), hN.1, hN.2.1, hN.2.2.1, (fun e => by cases e), hN.2.2.2.2⟩
      clear hX2 hM2 hO2 hnx
      go_wp2
      go_end0
      exact ⟨rfl, HF.out, HB.out, KF.out⟩
    · obtain ⟨i0, hi0, hai⟩ := lastM_some _ _ _ _ _ hM
      have ha := hA i0 hi0
      rw [hai] at ha
      obtain ⟨x, rfl⟩ : ∃ x : Nat, a = (x : Int) := ⟨a.toNat, by omega⟩
      have hx : x < d.nb := by omega
      have hv : v = .agg #[.int .i64 (x : Int), .string (d.rd x)] := by
        rcases lastM_rd d.A d.D (d.B x) (x : Int) d.nc with ⟨h2, -⟩ | h2
        · rw [h2] at hM; cases hM
        · rw [h2] at hM; exact (Option.some.inj hM).symm
      subst hv
      have hgr : (Value.slice a0 d.nb c0).ownBlock ≠ some w.heap.size := fun e => Nat.lt_irrefl _ (N0.out.1 _ e)
      have hur : v2.ownBlock ≠ some w.heap.size := fun e => Nat.lt_irrefl _ (N0.out.2 _ e)
      have bA : Below w'.heap.size w' (w'.alloc (.cells #[.int .i64 (x : Int), .string (d.rd x)] 68)) := (Below.refl _ _).alloc (Nat.le_refl _) _
      have X2 := (hX.onlyB hO (by omega)).below bA
      have T2 := (hT.onlyB hO hgr).below bA
      have U2 := (hU.onlyB hO hur).below bA
      have R2 := hR'.ofBlocks (bA.block b hR'.map.lt) (bA.block w.heap.size hR'.ltr)
      have E2 : Below B w (w'.alloc (.cells #[.int .i64 (x : Int), .string (d.rd x)] 68)) := B0.out.trans ((hO.toBelow hBw (by omega)).trans (bA.mono (by omega)))
      have hql3 : q < w'.heap.size := by omega
      obtain ⟨g, c0', hv0, r0, hBg, -, hgl⟩ := T2.pos (by omega)
      cases hv0
      have hg : g < w.heap.size := N0.out.1 g rfl
      have O4 : OnlyB g (w'.alloc (.cells #[.int .i64 (x : Int), .string (d.rd x)] 68)) ((w'.alloc (.cells #[.int .i64 (x : Int), .string (d.rd x)] 68)).setCell ⟨g, x, none⟩ (.string (d.rd x))) := (OnlyB.refl g _).setCell x _
      have k0 := X2.c0
      have cx := r0.c x hx
      have fx := r0.z x hx
      have hx' : (x : Int) < (d.nb : Int) := by omega
      have R4 := R2.ofBlocks (O4.block b R2.map.lt (fun e => HD.out.s0.2 (by rw [e]; rfl))) (O4.block w.heap.size R2.ltr (by omega))
      have c5 : (w'.alloc (.cells #[.int .i64 (x : Int), .string (d.rd x)] 68)).cell? ⟨w'.heap.size, 1, none⟩ = some (.string (d.rd x)) := by simp
      have D4 : Below ((w'.alloc (.cells #[.int .i64 (x : Int), .string (d.rd x)] 68)).setCell ⟨g, x, none⟩ (.string (d.rd x))).heap.size ((w'.alloc (.cells #[.int .i64 (x : Int), .string (d.rd x)] 68)).setCell ⟨g, x, none⟩ (.string (d.rd x))) ((w'.alloc (.cells #[.int .i64 (x : Int), .string (d.rd x)] 68)).setCell ⟨g, x, none⟩ (.string (d.rd x))).drew := (Below.refl _ _).drew
      have HF : Hid (RangeI ((w'.alloc (.cells #[.int .i64 (x : Int), .string (d.rd x)] 68)).setCell ⟨g, x, none⟩ (.string (d.rd x))).drew b w.heap.size (lastM d.A d.D d.nc) ((x : Int) :: S) ∧ Box4 ((w'.alloc (.cells #[.int .i64 (x : Int), .string (d.rd x)] 68)).setCell ⟨g, x, none⟩ (.string (d.rd x))).drew q 58 (.slice (some ⟨g, 0, none⟩) d.nb c0) v1 v2 (.map (some b)) ∧ TxR ((w'.alloc (.cells #[.int .i64 (x : Int), .string (d.rd x)] 68)).setCell ⟨g, x, none⟩ (.string (d.rd x))).drew B (.slice (some ⟨g, 0, none⟩) d.nb c0) d.nb (d.half ((x : Int) :: S)) ∧ TxR ((w'.alloc (.cells #[.int .i64 (x : Int), .string (d.rd x)] 68)).setCell ⟨g, x, none⟩ (.string (d.rd x))).drew B v2 d.ns d.S ∧ Below B w ((w'.alloc (.cells #[.int .i64 (x : Int), .string (d.rd x)] 68)).setCell ⟨g, x, none⟩ (.string (d.rd x))).drew ∧ ∀ C, C < w.heap.size → NotD C q b (.slice (some ⟨g, 0, none⟩) d.nb c0) v1 v2 → ((w'.alloc (.cells #[.int .i64 (x : Int), .string (d.rd x)] 68)).setCell ⟨g, x, none⟩ (.string (d.rd x))).drew.heap[C]? = w.heap[C]?) :=
        ⟨R4.ofBlocks rfl rfl, (X2.onlyB O4 (fun e => HD.out.s0.1 (by rw [e]; rfl))).below D4, ((T2.put x (d.rd x)).congr (fun i _ => by
          unfold Dk.half
          by_cases e : i = x
          · subst e; rw [if_pos rfl, if_pos (by simp)]
          · rw [if_neg e]
            have : ((i : Int) ∈ (x : Int) :: S) ↔ ((i : Int) ∈ S) := by simp; omega
            by_cases e2 : (i : Int) ∈ S
            · rw [if_pos e2, if_pos (this.2 e2)]
            · rw [if_neg e2, if_neg (fun q => e2 (this.1 q))])).below D4, (U2.onlyB O4 (HD.out.n02 g rfl)).below D4, (E2.trans (O4.toBelow hBg (by have := E2.size; omega))).drew, fun C hC hN => (D4.block C (by have := E2.size; have := O4.size; omega)).trans ((O4.block C (by have := E2.size; omega) (fun e => hN.2.2.1 (by rw [e]; rfl))).trans ((bA.block C (by omega)).trans ((hO.block C (by omega) (by omega)).trans (KX.out C hC hN))))⟩
      have HL : Hid (S.length + 1 ≤ d.nb) := nodup_bound d.nb ((x : Int) :: S) R4.nodup (fun a ha => by
        obtain ⟨v, hv⟩ := Option.isSome_iff_exists.1 (R4.mem a ha)
        obtain ⟨i1, hi1, e1⟩ := lastM_some _ _ _ _ _ hv
        have := hA i1 hi1
        omega)
      have HS : Hid (seenN wr b w.heap.size (lastM d.A d.D d.nc) = S.length) := hR.seenN
      have HS' : Hid (seenN ((w'.alloc (.cells #[.int .i64 (x : Int), .string (d.rd x)] 68)).setCell ⟨g, x, none⟩ (.string (d.rd x))).drew b w.heap.size (lastM d.A d.D d.nc) = S.length + 1) := HF.out.1.seenN
      clear R4 R2 T2 U2 X2 E2 O4 D4 hR hX hT hU hM hR' hO bA r0 hA hsz
      go_wp2_with fail
      generalize (w'.alloc (.cells #[.int .i64 (x : Int), .string (d.rd x)] 68)) = u at *
      go_region
      go_wp2
      go_roundw
      case rel => exact ⟨_, HF.out⟩
      case measure => rw [HS.out, HS'.out]; have := HL.out; omega
theorem sync_any (B q b : Nat) (d : Dk) (v0 v1 v2 : Value) (hA : ∀ i, i < d.nc → 0 ≤ d.A i ∧ d.A i < d.nb) (hn : d.nb ≤ 64) (w : World) (hBw : B ≤ w.heap.size) (h : Drv w B q b d v0 v1 v2) :
    Calls Tryd.prog 41 #[.pointer (some ⟨q, 0, none⟩)] w fun e w' => e = .returned (.tuple #[]) ∧ Drv w' B q b d.synced v0 (.slice none 0 0) v2 ∧ Below B w w' := (sync_anyK B q b d v0 v1 v2 hA hn w hBw h).mono fun _ _ q => ⟨q.1, q.2.1, q.2.2.1⟩
end Go.Proofs.YtgdfhgepbamhmaaDoor
