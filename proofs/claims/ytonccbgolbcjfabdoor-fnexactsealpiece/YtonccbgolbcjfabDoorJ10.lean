/-
  CtrXor again, with the room behind its answer told: the row in memory has just as many cells as the slice has room.
-/
import Derived.Test.YtonccbgolbcjfabDoorJ09
import Derived.Test.YtonccbgolbcjfabDoorNum
import Derived.Test.YtonccbgolbcjfabDoorJ01
import Derived.Test.YtonccbgolbcjfabDoorRowM
namespace Go.Proofs.YtonccbgolbcjfabDoor
open Go.ChangeShapes Go.WideShapes Go.ChangeAt Go.RowKit
/-- Block b is a row of m cells that may be written, that reads as f, n bytes from its head on. -/
def OwnC (m : Nat) (w : World) (b n : Nat) (f : Nat → Nat) : Prop := m ≤ maxLen ∧ n ≤ m ∧ ∃ g : Nat → Value, w.rowIs b 5 m g ∧ ∀ i, i < n → g i = .int .u8 (f i : Nat)
theorem OwnC.own {m : Nat} {w : World} {b n : Nat} {f : Nat → Nat} (h : OwnC m w b n f) : Own8 w b n f := by
  obtain ⟨_, hm, g, hr, hg⟩ := h
  exact ⟨m, g, hm, hr, hg⟩
theorem OwnC.cell {m : Nat} {w : World} {b n : Nat} {f : Nat → Nat} (h : OwnC m w b n f) {i : Nat} (hi : i < n) : w.cell? ⟨b, i, none⟩ = some (.int .u8 (f i : Nat)) := h.own.cell hi
theorem OwnC.frozen {m : Nat} {w : World} {b n : Nat} {f : Nat → Nat} (h : OwnC m w b n f) (i : Nat) : w.frozen? ⟨b, i, none⟩ = false := h.own.frozen i
theorem OwnC.lt {m : Nat} {w : World} {b n : Nat} {f : Nat → Nat} (h : OwnC m w b n f) : b < w.heap.size := h.own.lt
theorem OwnC.code {m : Nat} {w : World} {b n : Nat} {f : Nat → Nat} (h : OwnC m w b n f) : Code8 w (some ⟨b, 0, none⟩) n f := h.own.code
theorem OwnC.congr {m : Nat} {w : World} {b n : Nat} {f f' : Nat → Nat} (h : OwnC m w b n f) (e : ∀ i, i < n → f i = f' i) : OwnC m w b n f' := by
  obtain ⟨h0, hm, g, hr, hg⟩ := h
  exact ⟨h0, hm, g, hr, fun i hi => by rw [hg i hi, e i hi]⟩
theorem OwnC.set {m : Nat} {w : World} {b n : Nat} {f : Nat → Nat} (h : OwnC m w b n f) (i v : Nat) : OwnC m (w.setCell ⟨b, i, none⟩ (.int .u8 (v : Nat))) b n (fun j => if j = i then v else f j) := by
  obtain ⟨h0, hm, g, hr, hg⟩ := h
  refine ⟨h0, hm, _, hr.set i _, fun j hj => ?_⟩
  by_cases e : j = i
  · simp [e]
  · simp [e, hg j hj]
theorem OwnC.of_block {m : Nat} {w w' : World} {b n : Nat} {f : Nat → Nat} (h : OwnC m w b n f) (e : w'.heap[b]? = w.heap[b]?) : OwnC m w' b n f := by
  obtain ⟨h0, hm, g, hr, hg⟩ := h
  exact ⟨h0, hm, g, hr.of_block e, hg⟩
theorem OwnC.alloc {m : Nat} {w : World} {b n : Nat} {f : Nat → Nat} (h : OwnC m w b n f) (o : Obj) : OwnC m (w.alloc o) b n f := by
  obtain ⟨h0, hm, g, hr, hg⟩ := h
  exact ⟨h0, hm, g, hr.alloc o, hg⟩
theorem OwnC.below {m : Nat} {w w' : World} {b n : Nat} {f : Nat → Nat} (h : OwnC m w b n f) (hb : Below w.heap.size w w') : OwnC m w' b n f := h.of_block (hb.block b h.lt)
theorem OwnC.onlyB {m : Nat} {w w' : World} {b c n : Nat} {f : Nat → Nat} (h : OwnC m w b n f) (ho : OnlyB c w w') (hne : b ≠ c) : OwnC m w' b n f := h.of_block (ho.block b h.lt hne)
theorem ownC_of_own {w : World} {base : Nat} {v : Value} {n : Nat} {f : Nat → Nat} (h : w.ownsRow base 5 1 v n (bv n f)) (hv : v ≠ .slice none 0 0) :
    ∃ b cap, (base ≤ b ∧ n ≤ cap) ∧ v = .slice (some ⟨b, 0, none⟩) n cap ∧ OwnC cap w b n f := by
  obtain ⟨hl, ⟨rfl, rfl⟩ | ⟨g, cap, cur, rfl, hb, hh, hn', hm, hs, ht⟩⟩ := h
  · exact absurd rfl hv
  · refine ⟨g, cap, ⟨hb, hn'⟩, rfl, hm, hn', fun i => cur.getD i undef, ⟨cur, hh, by omega, fun i hi => ?_⟩, fun i hi => ?_⟩
    · have : i < cur.size := by omega
      simp [Array.getD, this]
    · have h1 : (cur.toList.take (n * 1))[i]? = some (.int .u8 (f i : Nat)) := by rw [ht]; exact bv_at hi
      rw [List.getElem?_take, if_pos (by omega), Array.getElem?_toList] at h1
      simp [Array.getD_eq_getD_getElem?, h1]
theorem own_of_ownC {w : World} {b n m base : Nat} {f : Nat → Nat} (h : OwnC m w b n f) (hb : base ≤ b) : w.ownsRow base 5 1 (.slice (some ⟨b, 0, none⟩) n m) n (bv n f) := by
  obtain ⟨h0, hm, g, ⟨cur, hh, hs, hc⟩, hg⟩ := h
  refine ⟨by rw [bv_length, Nat.mul_one], .inr ⟨b, m, cur, rfl, hb, hh, hm, h0, by omega, ?_⟩⟩
  apply List.ext_getElem?
  intro i
  rw [Nat.mul_one, List.getElem?_take]
  by_cases hi : i < n
  · rw [if_pos hi, bv_at hi, Array.getElem?_toList, hc i (by omega), hg i hi]
  · rw [if_neg hi, List.getElem?_eq_none (by rw [bv_length]; omega)]
def RetC (w w' : World) (e : Ending) (n : Nat) (f : Nat → Nat) : Prop := ∃ b c, (w.heap.size ≤ b ∧ n ≤ c) ∧ e = .returned (.slice (some ⟨b, 0, none⟩) n c) ∧ OwnC c w' b n f
def RetC2 (w w' : World) (e : Ending) (n : Nat) (f : Nat → Nat) (t : Value) : Prop := ∃ b c, (w.heap.size ≤ b ∧ n ≤ c) ∧ e = .returned (.tuple #[.slice (some ⟨b, 0, none⟩) n c, t]) ∧ OwnC c w' b n f
set_option maxRecDepth 100000 in
set_option maxHeartbeats 1000000 in
/-- slices.Clone of a slice of bytes that is not nil. -/
theorem cloneC_any (b o n c : Nat) (f : Nat → Nat) (hn : n ≤ 100000) (w : World) (h : Code8 w (some ⟨b, o, none⟩) n f) :
    Calls Tryd.prog 50 #[.slice (some ⟨b, o, none⟩) n c] w fun e w' => RetC w w' e n f ∧ Below w.heap.size w w' := by
  obtain ⟨i0, hi⟩ := info_parts Tryd.info8
  have HI : Hid (Tryd.prog.info? 5 = some i0 ∧ i0.zero = some (.int .u8 0) ∧ i0.size = 1 ∧ i0.bytes = 1) := hi
  have HC : Hid (Code8 w (some ⟨b, o, none⟩) n f) := h
  have q : ∀ (w : World) (a : Option Addr) (n c n' c' : Nat), (binOp .eql 30 (.slice a n c) (.slice none n' c')).run Tryd.prog w = .ok (.bool a.isNone) w := fun w a n c n' c' => Lib.run_eql_slice_nil w _ _ a n c n' c' Tryd.underlying30
  clear h hi
  go_enter Tryd.func50, Tryd.ntmps50
  go_wp2_with (at_builtin; refine wpList_append_own _ rfl _ _ 30 rfl w.heap.size 5 i0 (.int .u8 0) 1 1 Tryd.underlying30 HI.out.1 HI.out.2.1 HI.out.2.2.1 HI.out.2.2.2 rfl (by decide) _ _ _ rfl (World.ownsRow_made w #[] 0 (Nat.le_refl _) (Nat.zero_le _) (by simp)) ⟨b, o, none⟩ n c (bv n f) rfl (by rw [bv_length, Nat.mul_one]) ?qc2 (bv_one n f) (by unfold maxLen; omega) (by omega) (by simp) ?_)
  case qc2 =>
    intro j u hj
    exact Lib.cell?_alloc_some _ (bv_news HC.out j u hj)
  intro v' w1 hown hgrow hnil
  have hown' : w1.ownsRow w.heap.size 5 1 v' n (bv n f) := by simpa using hown
  obtain ⟨b', c', hb', rfl, ho⟩ := ownC_of_own hown' hnil
  have HB : Hid (Below w.heap.size w w1) := ((Below.refl _ w).alloc (Nat.le_refl _) _).grown hgrow (by simp) (by intro k hk; simp [Value.ownBlock] at hk; omega)
  have HO : Hid (OwnC c' w1 b' n f) := ho
  clear hown hgrow hnil hown' ho
  go_wp2
  go_ret
  exact ⟨⟨b', c', hb', rfl, HO.out⟩, HB.out⟩
set_option maxRecDepth 100000 in
set_option maxHeartbeats 2000000 in
/-- impl.addInto: over a part of a row of the caller's own. -/
theorem addIntoC_any (mm b o n c M : Nat) (F g : Nat → Nat) (hF : ∀ i, F i < 256) (hg : ∀ i, i < 16 → g i < 256) (hn : n ≤ 16) (hM : o + n ≤ M) (w : World) (h : OwnC mm w b M F) :
    Calls Tryd.prog 51 #[.slice (some ⟨b, o, none⟩) n c, .agg (bA 16 g)] w fun e w' => e = .returned (.tuple #[]) ∧ OwnC mm w' b M (fun i => if o ≤ i ∧ i < o + n then F i ^^^ g (i - o) else F i) ∧ OnlyB b w w' := by
  have hbl := h.lt
  have HO : Hid (OwnC mm (w.alloc (.cells (bA 16 g) 77)) b M F) := h.alloc _
  have HS : Hid (Row8 (w.alloc (.cells (bA 16 g) 77)) w.heap.size 77 16 g) := Row8.boxedAt rfl _ _ _
  have HB : Hid (OnlyB b w (w.alloc (.cells (bA 16 g) 77))) := (OnlyB.refl _ _).below ((Below.refl _ _).alloc (Nat.le_refl _) _)
  have HF : Hid (∀ i, F i < 256) := hF
  have HG : Hid (∀ i, i < 16 → g i < 256) := hg
  clear h hF hg
  go_enter Tryd.func51, Tryd.ntmps51
  go_wp2_with fail
  generalize w.alloc (.cells (bA 16 g) 77) = wz at *
  generalize bA 16 g = GA at *
  go_loopw [4, 7] (fun _ i wr => ∃ k : Nat, k ≤ n ∧ i = .int .i64 k ∧ OwnC mm wr b M (fun x => if o ≤ x ∧ x < o + k then F x ^^^ g (x - o) else F x) ∧ Row8 wr w.heap.size 77 16 g ∧ OnlyB b w wr) (fun _ i _ => n - (intOf i).toNat)
  case atStart => exact ⟨0, by omega, rfl, HO.out.congr (fun j hj => by rw [if_neg (by omega)]), HS.out, HB.out⟩
  case round =>
    clear HO HS HB
    obtain ⟨k, hk, rfl, ho, hs, hb⟩ := hrel
    have HO : Hid (OwnC mm wr b M (fun x => if o ≤ x ∧ x < o + k then F x ^^^ g (x - o) else F x)) := ho
    have HS : Hid (Row8 wr w.heap.size 77 16 g) := hs
    have HB : Hid (OnlyB b w wr) := hb
    by_cases hlt : k < n
    · have c1 := ho.cell (i := o + k) (by omega)
      simp only [Nat.lt_irrefl, and_false, if_false] at c1
      have f1 := ho.frozen (o + k)
      have c2 := World.rowIs.cell hs (i := k) (by omega)
      have l1 := HF.out (o + k)
      have l2 := HG.out k (by omega)
      have ex : bits .xor .u8 (F (o + k) : Int) (g k : Int) = ((F (o + k) ^^^ g k : Nat) : Int) := u8_xor_nat _ _ l1 l2
      have x0 : (0 : Int) ≤ (k : Int) := by omega
      have x1 : (k : Int) < (n : Int) := by omega
      have x2 : (k : Int) < 16 := by omega
      have HV : Hid (∀ v, v = F (o + k) ^^^ g k → ∀ x, x < M → (if x = o + k then v else if o ≤ x ∧ x < o + k then F x ^^^ g (x - o) else F x) = if o ≤ x ∧ x < o + (k + 1) then F x ^^^ g (x - o) else F x) := fun v hv x hx => by
        by_cases e : x = o + k
        · subst e
          rw [if_pos rfl, if_pos (by omega), hv, show o + k - o = k from by omega]
        · rw [if_neg e]
          by_cases e2 : o ≤ x ∧ x < o + k
          · rw [if_pos e2, if_pos (by omega)]
          · rw [if_neg e2, if_neg (by omega)]
      obtain ⟨V, hV⟩ : ∃ V, V = F (o + k) ^^^ g k := ⟨_, rfl⟩
      have HE : Hid (V = F (o + k) ^^^ g k) := hV
      rw [← hV] at ex
      clear hV ho hs hb
      generalize F (o + k) = A1 at *
      generalize g k = A2 at *
      go_wp2_with fail
      go_region
      go_wp2
      go_roundw
      case rel =>
        refine ⟨k + 1, by omega, by go_num, ?_, ?_, ?_⟩
        · exact (HO.out.set (o + k) V).congr (HV.out V HE.out)
        · exact HS.out.other (by show w.heap.size ≠ b; omega) _
        · exact (HB.out.setCell _ _).drew8
      case measure => simp [intOf]; omega
    · have x1 : ¬ (k : Int) < (n : Int) := by omega
      have HO2 : Hid (OwnC mm wr b M (fun x => if o ≤ x ∧ x < o + n then F x ^^^ g (x - o) else F x)) := ho.congr (fun x hx => by rw [show k = n from by omega])
      clear ho hs hb HO
      go_wp2
      exact bodyPost_end (results_none Tryd.results51 _ _ _) rfl ⟨rfl, HO2.out, HB.out⟩
def CtrJC (s : ByteArray) (w0 : World) (Cb m ob n C : Nat) (K f : Nat → Nat) (a' : Act) (w' : World) : Prop := ∃ (i : Nat) (ra : Option Addr) (L cr : Nat) (x12 : Int) (u0 u2 u3 u4 u5 u6 u7 u8 u13 u14 u15 u16 u17 u18 u19 u20 u21 u22 u23 u24 u25 u26 u27 u28 u29 u30 u31 u32 u33 u34 u35 u36 u37 u38 u39 u40 u41 u42 u43 u44 u45 u46 u47 : Value), a' = { tmps := #[u0, .string s, u2, u3, u4, u5, u6, u7, u8, .pointer (some ⟨Cb, 0, none⟩), .slice (some ⟨ob, 0, none⟩) n C, .slice ra L cr, .int .u32 x12, u13, u14, u15, u16, u17, u18, u19, u20, u21, u22, u23, u24, u25, u26, u27, u28, u29, u30, u31, u32, u33, u34, u35, u36, u37, u38, u39, u40, u41, u42, u43, u44, u45, u46, u47], defers := [] } ∧
  (L = n - 16 * i ∧ x12 = (i : Int) + 1) ∧ i ≤ 4096 ∧ (16 * i < n → ra = some ⟨ob, 16 * i, none⟩) ∧ L ≤ cr ∧ OwnC C w' ob n (fun x => if x < 16 * i then ctrF K m (strB s) f x else f x) ∧ CiphAt w' Cb m K ∧ Below w0.heap.size w0 w'
set_option maxRecDepth 100000 in
set_option maxHeartbeats 4000000 in
theorem implCtrC_yes (k s : ByteArray) (kn b o n c : Nat) (f : Nat → Nat) (hkn : kn = 4 ∨ kn = 8) (hk : k.size = kn * 4) (hs : s.size = 12) (hn : n ≤ 65536) (hf : ∀ i, f i < 256) (w : World) (h : Code8 w (some ⟨b, o, none⟩) n f) :
    Calls Tryd.prog 37 #[.string k, .string s, .slice (some ⟨b, o, none⟩) n c] w fun e w' => RetC2 w w' e n (ctrF (Gf.ws (strB k) kn (3 * kn + 28)) (kn + 6) (strB s) f) (.int .i64 0) ∧ Below w.heap.size w w' := by
  have MF : Hid (∀ w : World, Calls Tryd.prog 48 #[.string k, .string s, .int .i64 12, .int .i64 (n : Int), .int .i64 65536] w fun e w' => e = .returned (.int .i64 0) ∧ w = w') := mf_ok k s 12 n 65536 (by omega) (by omega) (by omega) (by omega)
  have NC : Hid (∀ w : World, Calls Tryd.prog 49 #[.string k] w fun e w' => e = .returned (.agg (cA (kn + 6) (Gf.ws (strB k) kn (3 * kn + 28)))) ∧ Below w.heap.size w w') := newCipher_any k kn hkn hk
  have LW : Hid (∀ j, Gf.ws (strB k) kn (3 * kn + 28) j < 256) := Gf.ws_lt (strB_lt k) _
  generalize Gf.ws (strB k) kn (3 * kn + 28) = W at *
  obtain ⟨m, hm⟩ : ∃ m, m = kn + 6 := ⟨_, rfl⟩
  have hm1 : 1 ≤ m := by omega
  have hm2 : m ≤ 14 := by omega
  rw [← hm] at NC ⊢
  have CB : Hid (∀ (i : Nat) (w : World), i < 4294967296 → Calls Tryd.prog 53 #[.string s, .int .u32 (i : Int)] w fun e w' => e = .returned (.agg (bA 16 (ctrBlk (strB s) i))) ∧ Below w.heap.size w w') := fun i w hi => counterBlock_any s hs i hi w
  have EN : Hid (∀ (C i : Nat) (w : World), CiphAt w C m W → Calls Tryd.prog 52 #[.pointer (some ⟨C, 0, none⟩), .agg (bA 16 (ctrBlk (strB s) i))] w fun e w' => e = .returned (.agg (bA 16 (Gf.enc W m (ctrBlk (strB s) i)))) ∧ Below w.heap.size w w') := fun C i w h => encrypt_any C m W _ (fun j _ => ctrBlk_lt (strB_lt s) i j) LW.out hm1 hm2 w h
  have CL : Hid (∀ w : World, Code8 w (some ⟨b, o, none⟩) n f → Calls Tryd.prog 50 #[.slice (some ⟨b, o, none⟩) n c] w fun e w' => RetC w w' e n f ∧ Below w.heap.size w w') := fun w h => cloneC_any b o n c f (by omega) w h
  obtain ⟨Z, z0, hZ, -⟩ := Tryd.zeroC
  have S2 : Hid ((Tryd.prog.info? 82).map (·.size) = some (cA m W).size) := by rw [cA_size]; exact Tryd.sizeC
  have O2 : Hid ((cA m W).all (·.oneCell') = true) := cA_one _ _
  have hLen : (cA m W).toList.length = 769 := cA_len _ _
  have hAt : Hid (∀ k, k < 769 → (cA m W).toList[k]? = some (cf m W k)) := fun k hk => by
    have := cA_at (n := m) (K := W) hk
    rwa [← Array.getElem?_toList] at this
  have HSZ : Hid ((cA m W).size = 769) := cA_size _ _
  generalize cA m W = CA at *
  have HC : Hid (Code8 w (some ⟨b, o, none⟩) n f) := h
  have HF : Hid (∀ i, f i < 256) := hf
  clear h hf hkn hk hs hm
  go_enter Tryd.func37, Tryd.ntmps37
  go_wp2
  refine wp_scope_label 0 (fun a' w' => ∃ Cb ob C, (w.heap.size ≤ ob ∧ Cb < ob) ∧ n ≤ C ∧ CtrJC s w Cb m ob n C W f a' w') (fun a' _ => lenOf (a'.tmps.getD 11 undef)) rfl ?_ ?_
  · rintro a' wr ⟨Cb, ob, C, ⟨hob, hCo⟩, hnC, i, ra, L, cr, x12, u0, u2, u3, u4, u5, u6, u7, u8, u13, u14, u15, u16, u17, u18, u19, u20, u21, u22, u23, u24, u25, u26, u27, u28, u29, u30, u31, u32, u33, u34, u35, u36, u37, u38, u39, u40, u41, u42, u43, u44, u45, u46, u47, rfl, ⟨hL, rfl⟩, hi, hra, hcr, ho, hC, hB⟩
    have HO : Hid (OwnC C wr ob n (fun x => if x < 16 * i then ctrF W m (strB s) f x else f x)) := ho
    have CC : Hid (CiphAt wr Cb m W) := hC
    have HB : Hid (Below w.heap.size w wr) := hB
    clear ho hC hB
    by_cases hlt : 16 * i < n
    · have era := hra hlt
      subst era
      obtain ⟨q, hq⟩ : ∃ q, q = min L 16 := ⟨_, rfl⟩
      have hq1 : 1 ≤ q := by omega
      have hq2 : q ≤ 16 := by omega
      have hq3 : q ≤ L := by omega
      have eL : ((L : Int) == 0) = false := by rw [beq_eq_false_iff_ne]; omega
      have eq1 : min (L : Int) 16 = (q : Int) := by omega
      have xq0 : (0 : Int) ≤ (q : Int) := by omega
      have xq1 : (q : Int) ≤ (cr : Int) := by omega
      have xq2 : (q : Int) ≤ (L : Int) := by omega
      have HLQ : Hid (n - 16 * (i + 1) = L - q) := by show n - 16 * (i + 1) = L - q; omega
      have hMq : 16 * i + q ≤ n := by omega
      have CBi : Hid (∀ w : World, Calls Tryd.prog 53 #[.string s, .int .u32 ((i : Int) + 1)] w fun e w' => e = .returned (.agg (bA 16 (ctrBlk (strB s) (i + 1)))) ∧ Below w.heap.size w w') := fun w => CB.out (i + 1) w (by omega)
      have ENi : Hid (∀ w : World, CiphAt w Cb m W → Calls Tryd.prog 52 #[.pointer (some ⟨Cb, 0, none⟩), .agg (bA 16 (ctrBlk (strB s) (i + 1)))] w fun e w' => e = .returned (.agg (bA 16 (Gf.enc W m (ctrBlk (strB s) (i + 1))))) ∧ Below w.heap.size w w') := fun w h => EN.out Cb (i + 1) w h
      have HF2 : Hid (∀ x, (if x < 16 * i then ctrF W m (strB s) f x else f x) < 256) := fun x => by
        show (if x < 16 * i then ctrF W m (strB s) f x else f x) < 256
        split
        · exact ctrF_lt LW.out (strB_lt s) HF.out x
        · exact HF.out x
      have AI : Hid (∀ w : World, OwnC C w ob n (fun x => if x < 16 * i then ctrF W m (strB s) f x else f x) → Calls Tryd.prog 51 #[.slice (some ⟨ob, 16 * i, none⟩) q q, .agg (bA 16 (Gf.enc W m (ctrBlk (strB s) (i + 1))))] w fun e w' => e = .returned (.tuple #[]) ∧ OwnC C w' ob n (fun x => if x < 16 * (i + 1) then ctrF W m (strB s) f x else f x) ∧ OnlyB ob w w') := fun w h =>
        (addIntoC_any C ob (16 * i) q q n _ _ HF2.out (fun j _ => Gf.enc_lt LW.out (fun j _ => ctrBlk_lt (strB_lt s) _ j) j) hq2 hMq w h).mono fun e w' hh => ⟨hh.1, hh.2.1.congr (fun x hx => by
          by_cases e : 16 * i ≤ x ∧ x < 16 * i + q
          · rw [if_pos e, if_neg (by omega), if_pos (by omega)]
            unfold ctrF ctrK
            rw [show x / 16 + 1 = i + 1 from by omega, show x % 16 = x - 16 * i from by omega]
          · rw [if_neg e]
            by_cases e2 : x < 16 * i
            · rw [if_pos e2, if_pos (by omega)]
            · rw [if_neg e2, if_neg (by omega)]), hh.2.2⟩
      have HOd : Hid (OwnC C wr.drew ob n (fun x => if x < 16 * i then ctrF W m (strB s) f x else f x)) := HO.out
      have CCd : Hid (CiphAt wr.drew Cb m W) := CC.out
      have HBd : Hid (Below w.heap.size w wr.drew) := HB.out.drew
      have hi2 : i + 1 ≤ 4096 := by omega
      have xw : IntKind.u32.wrap ((i : Int) + 1 + 1) = (i : Int) + 1 + 1 := IntWalk.u32_in _ ⟨by omega, by omega⟩
      generalize bA 16 (Gf.enc W m (ctrBlk (strB s) (i + 1))) = EA at *
      generalize bA 16 (ctrBlk (strB s) (i + 1)) = BA at *
      have hqq : (L ≤ 16 ∧ q = L) ∨ (¬ L ≤ 16 ∧ q = 16) := by omega
      have HR : Hid (∀ (ra : Option Addr), (ra = some ⟨ob, 16 * i + q, none⟩ ∨ L - q = 0) → (16 * (i + 1) < n → ra = some ⟨ob, 16 * (i + 1), none⟩)) := fun ra hra2 hlt2 => by
        have e1 : q = 16 := by omega
        rcases hra2 with h | h
        · rw [h, e1, Nat.mul_add]
        · omega
      have hcrq : L - q ≤ cr - q := by omega
      clear hra hq hL CL EN CB LW HF HF2 HO CC HB HC NC MF S2 O2 hLen hAt HSZ z0 hZ eq1
      go_upto_region 9 with fail
      go_cut [13] (fun v wx => v = .int .i64 (q : Int) ∧ wx = wr)
      case first =>
        rcases hqq with ⟨h16, rfl⟩ | ⟨h16, rfl⟩
        · have x16 : (q : Int) ≤ 16 := by omega
          go_wp2_with fail
          go_meet
          exact ⟨rfl, rfl⟩
        · have x16 : ¬ (L : Int) ≤ 16 := by omega
          go_wp2_with fail
          go_meet
          exact ⟨rfl, rfl⟩
      case rest =>
      obtain ⟨rfl, rfl⟩ := hcut
      clear hqq
      go_wp2_with fail
      go_region_with (first
        | (go_at_call 53; refine (CBi.out _).mono ?_; rintro e w1 ⟨rfl, hb1⟩)
        | (go_at_call 52; refine (ENi.out _ ?_).mono ?_; exact CCd.out.below hb1; rintro e w2 ⟨rfl, hb2⟩)
        | (go_at_call 51; refine (AI.out _ ?_).mono ?_; exact (HOd.out.below hb1).below hb2; rintro e w3 ⟨rfl, ho3, hb3⟩))
      have CC3 : Hid (CiphAt w3 Cb m W) := ((CCd.out.below hb1).below hb2).onlyB8 hb3 (by omega)
      have B2' : Below w.heap.size w w2 := (HBd.out.trans (hb1.mono HBd.out.size)).trans (hb2.mono (HBd.out.trans (hb1.mono HBd.out.size)).size)
      have HB3 : Hid (Below w.heap.size w w3) := B2'.trans (hb3.toBelow hob B2'.size)
      have HO3 : Hid (OwnC C w3 ob n (fun x => if x < 16 * (i + 1) then ctrF W m (strB s) f x else f x)) := ho3
      clear hb1 hb2 hb3 ho3 B2' CCd HBd HOd CBi ENi AI
      go_wp2
      all_goals
        go_step3
        refine ⟨rfl, ⟨Cb, ob, C, ⟨hob, hCo⟩, hnC, i + 1, _, _, _, _, _, _, _, _, _, _, _, _, _, _, _, _, _, _, _, _, _, _, _, _, _, _, _, _, _, _, _, _, _, _, _, _, _, _, _, _, _, _, _, _, _, _, _, rfl, ⟨?_, ?_⟩, hi2, HR.out _ ?_, ?_, HO3.out, CC3.out, HB3.out⟩, ?_⟩
        · have := HLQ.out; omega
        · omega
        · first | exact .inl rfl | (right; omega)
        · omega
        · show _ < L; simp [lenOf]; omega
    · have HO2 : Hid (OwnC C wr ob n (ctrF W m (strB s) f)) := HO.out.congr (fun x hx => by rw [if_pos (by omega)])
      obtain rfl : L = 0 := by omega
      clear HO CL EN CB HC NC MF S2 O2 hLen hAt HSZ z0 hZ hra hL
      go_wp2
      rw [jump_ret]
      exact bodyPost_ret (results_tmp2 Tryd.results37 _ _ _) rfl ⟨⟨ob, C, ⟨hob, hnC⟩, rfl, HO2.out⟩, HB.out⟩
  · intro hp
    go_upto_region 5 with (first
      | (go_at_call 48; refine (MF.out _).mono ?_; rintro e w' ⟨rfl, rfl⟩)
      | (go_at_call 49; refine (NC.out _).mono ?_; rintro e w1 ⟨rfl, hb⟩)
      | (refine wpList_store_mid rfl 82 (.tmp 9) (.tmp 23) rfl _ 0 CA rfl rfl ?_ S2.out O2.out ?_))
    · rw [HSZ.out]; exact there_big w1 Z _ hZ
    · have R1 : ((w1.alloc (.cells Z 82)).setCells w1.heap.size 0 CA.toList).rangeAt w1.heap.size 0 CA.toList := World.rangeAt_setCells_same _ _ _ _ (by rw [hLen]; exact there_big w1 Z _ hZ)
      have CC : Hid (CiphAt ((w1.alloc (.cells Z 82)).setCells w1.heap.size 0 CA.toList) w1.heap.size m W) := fun k hk => by
        have := R1 k _ (hAt.out k hk)
        rwa [Nat.zero_add] at this
      have hsz := hb.size
      have B1 : Hid (Below w.heap.size w ((w1.alloc (.cells Z 82)).setCells w1.heap.size 0 CA.toList)) := below_setCells hsz _ _ _ (hb.alloc hsz _)
      have HC1 : Hid (Code8 ((w1.alloc (.cells Z 82)).setCells w1.heap.size 0 CA.toList) (some ⟨b, o, none⟩) n f) := HC.out.below B1.out
      clear R1 hb NC MF S2 O2 hLen hAt HSZ z0 hZ HC
      generalize (w1.alloc (.cells Z 82)).setCells w1.heap.size 0 CA.toList = wz at *
      generalize w1.heap.size = Cb at *
      go_wp2_with fail
      refine (CL.out _ HC1.out).mono ?_
      rintro e w2 ⟨⟨ob, C, ⟨hob, hnC⟩, rfl, ho⟩, hb2⟩
      have CC2 : Hid (CiphAt w2 Cb m W) := CC.out.below hb2
      have hCz := CC.out.lt
      have B2 : Hid (Below w.heap.size w w2) := B1.out.trans (hb2.mono B1.out.size)
      have HO2 : Hid (OwnC C w2 ob n f) := ho
      have hob' : w.heap.size ≤ ob := Nat.le_trans B1.out.size hob
      clear hb2 CC B1 ho HC1
      go_wp2_with fail
      go_step3
      rename_i hKx
      refine hKx _ _ (hp _ _ ⟨Cb, ob, C, ⟨hob', Nat.lt_of_lt_of_le hCz hob⟩, hnC, 0, _, _, C, _, _, _, _, _, _, _, _, _, _, _, _, _, _, _, _, _, _, _, _, _, _, _, _, _, _, _, _, _, _, _, _, _, _, _, _, _, _, _, _, _, _, _, _, rfl, ⟨by omega, by omega⟩, by omega, fun _ => rfl, by omega, HO2.out.congr (fun x hx => by rw [if_neg (by omega)]), CC2.out, B2.out⟩)
end Go.Proofs.YtonccbgolbcjfabDoor

/-
  A sealer in memory: its stream and its tag.
-/
namespace Go.Proofs.YtonccbgolbcjfabDoor
open Go.ChangeShapes Go.WideShapes Go.ChangeAt Go.RowKit
/-- The cells of a sealer: 64 bytes of keys, the nonce, and what stands beside what is sealed. -/
def slV (G : Nat → Nat) (s : ByteArray) (x : Value) (i : Nat) : Value := if i < 64 then .int .u8 (G i : Nat) else if i = 64 then .string s else x
def SealAt (w : World) (q : Nat) (G : Nat → Nat) (s : ByteArray) (x : Value) : Prop := w.rowIs q 45 66 (slV G s x)
theorem SealAt.below {w w' : World} {q : Nat} {G : Nat → Nat} {s : ByteArray} {x : Value} (h : SealAt w q G s x) (hb : Below w.heap.size w w') : SealAt w' q G s x := World.rowIs.of_block h (hb.block q (World.rowIs.lt h))
theorem SealAt.lt {w : World} {q : Nat} {G : Nat → Nat} {s : ByteArray} {x : Value} (h : SealAt w q G s x) : q < w.heap.size := World.rowIs.lt h
theorem SealAt.drew {w : World} {q : Nat} {G : Nat → Nat} {s : ByteArray} {x : Value} (h : SealAt w q G s x) : SealAt w.drew q G s x := h
theorem SealAt.part {w : World} {q : Nat} {G : Nat → Nat} {s : ByteArray} {x : Value} (h : SealAt w q G s x) (o m : Nat) (hm : o + m ≤ 64) : Code8 w (some ⟨q, o, none⟩) m (fun i => G (o + i)) := code8_of (fun i hi => by
  rw [World.rowIs.cell h (by omega)]
  unfold slV
  rw [if_pos (by omega)])
theorem SealAt.nonce {w : World} {q : Nat} {G : Nat → Nat} {s : ByteArray} {x : Value} (h : SealAt w q G s x) : w.cell? ⟨q, 64, none⟩ = some (.string s) := World.rowIs.cell h (i := 64) (by omega)
theorem SealAt.extra {w : World} {q : Nat} {G : Nat → Nat} {s : ByteArray} {x : Value} (h : SealAt w q G s x) : w.cell? ⟨q, 65, none⟩ = some x := World.rowIs.cell h (i := 65) (by omega)
theorem SealAt.there {w : World} {q : Nat} {G : Nat → Nat} {s : ByteArray} {x : Value} (h : SealAt w q G s x) : w.there q 0 64 := fun j hj => by
  rw [Nat.zero_add]
  exact ⟨by rw [World.rowIs.cell h (by omega)]; rfl, World.rowIs.frozen h j⟩
/-- What a stream makes of bytes. -/
def streamF (k s : ByteArray) (f : Nat → Nat) : Nat → Nat := ctrF (Gf.ws (strB (encS k)) 8 (3 * 8 + 28)) (8 + 6) (strB s) f
set_option maxRecDepth 100000 in
set_option maxHeartbeats 2000000 in
theorem streamed_any (k s : ByteArray) (x : Value) (q b o n c : Nat) (f : Nat → Nat) (hs : s.size = 12) (hn : n ≤ 65536) (hf : ∀ i, f i < 256) (w : World) (h : SealAt w q (pairF k) s x) (hc : Code8 w (some ⟨b, o, none⟩) n f) :
    Calls Tryd.prog 25 #[.pointer (some ⟨q, 0, none⟩), .slice (some ⟨b, o, none⟩) n c] w fun e w' => RetC w w' e n (streamF k s f) ∧ Below w.heap.size w w' := by
  have CX : Hid (∀ w : World, Code8 w (some ⟨b, o, none⟩) n f → Calls Tryd.prog 37 #[.string (encS k), .string s, .slice (some ⟨b, o, none⟩) n c] w fun e w' => RetC2 w w' e n (streamF k s f) (.int .i64 0) ∧ Below w.heap.size w w') := fun w h => implCtrC_yes (encS k) s 8 b o n c f (.inr rfl) (by rw [encS_size]) hs hn hf w h
  have hE : kstr (fun i => pairF k (0 + i)) 0 32 = encS k := kstr_congr (fun i _ => by rw [Nat.zero_add, Nat.zero_add])
  have HE : Hid (kstr (fun i => pairF k (0 + i)) 0 32 = encS k) := hE
  have HS : Hid (SealAt w q (pairF k) s x) := h
  have HC : Hid (Code8 w (some ⟨b, o, none⟩) n f) := hc
  clear h hc hE hf
  generalize pairF k = G at *
  generalize encS k = E at *
  generalize streamF k s f = F at *
  go_enter Tryd.func25, Tryd.ntmps25
  go_upto_region 1 with fail
  have H := HS.out.drew
  refine wp_region_noPanic ?_
  refine wp_region_held_drew (S := fun w' => SealAt w' q G s x) (by kernel_rfl) H (fun _ => ?_)
  refine wpAnyH_take (i := 0) (v := .pointer (some ⟨q, 0, none⟩)) rfl (by kernel_rfl) (by kernel_rfl) (by kernel_rfl) (fun _ _ _ h => h) (Or.inl ⟨by rfl, ?_⟩) H ?_
  · intro w' hSw; go_simp
  change wpAnyH _ _ _ _ _ _ _ { tmps := #[_, _, _, _, _, _, _, _, _, _, _, _, _, _, _, _, _, _, _, _, _, _, _], defers := _ } _
  refine wpAnyH_take (i := 1) (v := .pointer (some ⟨q, 0, none⟩)) rfl (by kernel_rfl) (by kernel_rfl) (by kernel_rfl) (fun _ _ _ h => h) (Or.inl ⟨by rfl, ?_⟩) H ?_
  · intro w' hSw; go_simp
  change wpAnyH _ _ _ _ _ _ _ { tmps := #[_, _, _, _, _, _, _, _, _, _, _, _, _, _, _, _, _, _, _, _, _, _, _], defers := _ } _
  refine wpAnyH_take (i := 2) (v := .pointer (some ⟨q, 0, none⟩)) rfl (by kernel_rfl) (by kernel_rfl) (by kernel_rfl) (fun _ _ _ h => h) (Or.inl ⟨by rfl, ?_⟩) H ?_
  · intro w' hSw; go_simp
  change wpAnyH _ _ _ _ _ _ _ { tmps := #[_, _, _, _, _, _, _, _, _, _, _, _, _, _, _, _, _, _, _, _, _, _, _], defers := _ } _
  refine wpAnyH_take (i := 3) (v := .pointer (some ⟨q, 0, none⟩)) rfl (by kernel_rfl) (by kernel_rfl) (by kernel_rfl) (fun _ _ _ h => h) (Or.inl ⟨by rfl, ?_⟩) H ?_
  · intro w' hSw; go_simp
  change wpAnyH _ _ _ _ _ _ _ { tmps := #[_, _, _, _, _, _, _, _, _, _, _, _, _, _, _, _, _, _, _, _, _, _, _], defers := _ } _
  refine wpAnyH_take (i := 4) (v := .slice (some ⟨q, 0, none⟩) 32 32) rfl (by kernel_rfl) (by kernel_rfl) (by kernel_rfl) (fun _ _ _ h => h) (Or.inl ⟨by rfl, ?_⟩) H ?_
  · intro w' hSw; go_simp
  change wpAnyH _ _ _ _ _ _ _ { tmps := #[_, _, _, _, _, _, _, _, _, _, _, _, _, _, _, _, _, _, _, _, _, _, _], defers := _ } _
  refine wpAnyH_take (i := 5) (v := .string E) rfl (by kernel_rfl) (by kernel_rfl) (by kernel_rfl) (fun _ _ _ h => h) (Or.inl ⟨by rfl, ?_⟩) H ?_
  · intro w' hSw; have := kstr_of_code (c := 32) (hSw.part 0 32 (by omega)); rw [HE.out] at this; clear hSw; go_simp
  change wpAnyH _ _ _ _ _ _ _ { tmps := #[_, _, _, _, _, _, _, _, _, _, _, _, _, _, _, _, _, _, _, _, _, _, _], defers := _ } _
  refine wpAnyH_take (i := 6) (v := .pointer (some ⟨q, 0, none⟩)) rfl (by kernel_rfl) (by kernel_rfl) (by kernel_rfl) (fun _ _ _ h => h) (Or.inl ⟨by rfl, ?_⟩) H ?_
  · intro w' hSw; go_simp
  change wpAnyH _ _ _ _ _ _ _ { tmps := #[_, _, _, _, _, _, _, _, _, _, _, _, _, _, _, _, _, _, _, _, _, _, _], defers := _ } _
  refine wpAnyH_take (i := 7) (v := .pointer (some ⟨q, 0, none⟩)) rfl (by kernel_rfl) (by kernel_rfl) (by kernel_rfl) (fun _ _ _ h => h) (Or.inl ⟨by rfl, ?_⟩) H ?_
  · intro w' hSw; go_simp
  change wpAnyH _ _ _ _ _ _ _ { tmps := #[_, _, _, _, _, _, _, _, _, _, _, _, _, _, _, _, _, _, _, _, _, _, _], defers := _ } _
  refine wpAnyH_take (i := 8) (v := .pointer (some ⟨q, 64, none⟩)) rfl (by kernel_rfl) (by kernel_rfl) (by kernel_rfl) (fun _ _ _ h => h) (Or.inl ⟨by rfl, ?_⟩) H ?_
  · intro w' hSw; go_simp
  change wpAnyH _ _ _ _ _ _ _ { tmps := #[_, _, _, _, _, _, _, _, _, _, _, _, _, _, _, _, _, _, _, _, _, _, _], defers := _ } _
  refine wpAnyH_take (i := 9) (v := .string s) rfl (by kernel_rfl) (by kernel_rfl) (by kernel_rfl) (fun _ _ _ h => h) (Or.inl ⟨by rfl, ?_⟩) H ?_
  · intro w' hSw; have := hSw.nonce; clear hSw; go_simp
  change wpAnyH _ _ _ _ _ _ _ { tmps := #[_, _, _, _, _, _, _, _, _, _, _, _, _, _, _, _, _, _, _, _, _, _, _], defers := _ } _
  refine wpAnyH_take (i := 10) (v := .slice (some ⟨b, o, none⟩) n c) rfl (by kernel_rfl) (by kernel_rfl) (by kernel_rfl) (fun _ _ _ h => h) (Or.inl ⟨by rfl, ?_⟩) H ?_
  · intro w' hSw; go_simp
  change wpAnyH _ _ _ _ _ _ _ { tmps := #[_, _, _, _, _, _, _, _, _, _, _, _, _, _, _, _, _, _, _, _, _, _, _], defers := _ } _
  refine wpAnyH_ready (rs := [11]) (by kernel_rfl) (by simp) ?_
  refine AllReadyH.cons rfl (fun KK hK => ?_) AllReadyH.nil
  go_simp
  refine (CX.out w.drew (HC.out.below (Below.refl _ w).drew)).mono ?_
  rintro e w1 ⟨⟨g, cg, ⟨hg, hcg⟩, rfl, ho⟩, hb⟩
  have HO : Hid (OwnC cg w1 g n F) := ho
  have hB : Below w.heap.size w w1 := (Below.refl _ w).drew.trans hb
  have HB : Hid (Below w.heap.size w w1) := hB
  have HG : Hid (w.heap.size ≤ g ∧ n ≤ cg) := ⟨hg, hcg⟩
  replace H : SealAt w1 q G s x := H.below hb
  clear ho hb hB hg hcg
  refine hK.out _ _ H (fun _ => ?_)
  clear hK KK
  change wpAnyH _ _ _ _ _ _ _ { tmps := #[_, _, _, _, _, _, _, _, _, _, _, _, _, _, _, _, _, _, _, _, _, _, _], defers := _ } _
  refine wpAnyH_take (i := 12) (v := .tuple #[.slice (some ⟨g, 0, none⟩) n cg, .int .i64 0]) rfl (by kernel_rfl) (by kernel_rfl) (by kernel_rfl) (fun _ _ _ h => h) (Or.inl ⟨by rfl, ?_⟩) H ?_
  · intro w' hSw; go_simp
  change wpAnyH _ _ _ _ _ _ _ { tmps := #[_, _, _, _, _, _, _, _, _, _, _, _, _, _, _, _, _, _, _, _, _, _, _], defers := _ } _
  refine wpAnyH_take (i := 13) (v := .slice (some ⟨g, 0, none⟩) n cg) rfl (by kernel_rfl) (by kernel_rfl) (by kernel_rfl) (fun _ _ _ h => h) (Or.inl ⟨by rfl, ?_⟩) H ?_
  · intro w' hSw; go_simp
  change wpAnyH _ _ _ _ _ _ _ { tmps := #[_, _, _, _, _, _, _, _, _, _, _, _, _, _, _, _, _, _, _, _, _, _, _], defers := _ } _
  refine wpAnyH_take (i := 14) (v := .int .i64 0) rfl (by kernel_rfl) (by kernel_rfl) (by kernel_rfl) (fun _ _ _ h => h) (Or.inl ⟨by rfl, ?_⟩) H ?_
  · intro w' hSw; go_simp
  change wpAnyH _ _ _ _ _ _ _ { tmps := #[_, _, _, _, _, _, _, _, _, _, _, _, _, _, _, _, _, _, _, _, _, _, _], defers := _ } _
  refine wpAnyH_take (i := 15) (v := .slice (some ⟨g, 0, none⟩) n cg) rfl (by kernel_rfl) (by kernel_rfl) (by kernel_rfl) (fun _ _ _ h => h) (Or.inl ⟨by rfl, ?_⟩) H ?_
  · intro w' hSw; go_simp
  change wpAnyH _ _ _ _ _ _ _ { tmps := #[_, _, _, _, _, _, _, _, _, _, _, _, _, _, _, _, _, _, _, _, _, _, _], defers := _ } _
  refine wpAnyH_take (i := 16) (v := .int .i64 0) rfl (by kernel_rfl) (by kernel_rfl) (by kernel_rfl) (fun _ _ _ h => h) (Or.inl ⟨by rfl, ?_⟩) H ?_
  · intro w' hSw; go_simp
  change wpAnyH _ _ _ _ _ _ _ { tmps := #[_, _, _, _, _, _, _, _, _, _, _, _, _, _, _, _, _, _, _, _, _, _, _], defers := _ } _
  clear H
  refine wpAnyH_done (by kernel_rfl) ?_ _
  refine NoPanic.normal ?_
  go_wp2
  go_ret
  exact ⟨⟨g, cg, HG.out, rfl, HO.out⟩, HB.out⟩
end Go.Proofs.YtonccbgolbcjfabDoor
