/-
  ListDir of the program.
-/
import Derived.Test.YtgcdoabcopihlaaGreatFileRm
import Derived.Test.YtgcdoabcopihlaaGreatE09
import Derived.Test.YtgcdoabcopihlaaGreatE02
import Derived.RangeFuncNested
import Derived.BigFrameIn
import Derived.OwnWalkIn
import Derived.Test.YtgcdoabcopihlaaGreatE10
import Derived.Test.YtgcdoabcopihlaaGreatE11
namespace Go.Proofs.YtgcdoabcopihlaaGreat
open Go.ChangeShapes Go.WideShapes Go.ChangeAt Go.RowKit
set_option linter.unusedVariables false
open Classical in
/-- The name that a file below gives, or none. -/
noncomputable def nmOf (x : ByteArray × Fi) : List ByteArray := if NoSl x.1 0 x.1.size then [if x.2.d then x.1 ++ ⟨#[47]⟩ else x.1] else []
/-- The text behind the head of file k. -/
def rsT (F : Nat → Fi) (h : ByteArray) (k : Nat) : ByteArray := (F k).p.extract h.size (F k).p.size
/-- The names that files at places give. -/
noncomputable def nms (F : Nat → Fi) (h : ByteArray) (n : Nat) (l : List {i : Nat // i < n}) : List ByteArray := (l.map (fun x => nmOf (rsT F h x.1, F x.1))).flatten
theorem nms_snoc (F : Nat → Fi) (h : ByteArray) (n : Nat) (l : List {i : Nat // i < n}) (x : {i : Nat // i < n}) : nms F h n (l ++ [x]) = nms F h n l ++ nmOf (rsT F h x.1, F x.1) := by
  unfold nms
  simp
theorem nms_le (F : Nat → Fi) (h : ByteArray) (n : Nat) : ∀ l : List {i : Nat // i < n}, (nms F h n l).length ≤ l.length
  | [] => by simp [nms]
  | x :: l => by
    have := nms_le F h n l
    have h1 : nms F h n (x :: l) = nmOf (rsT F h x.1, F x.1) ++ nms F h n l := by unfold nms; simp
    have h2 : (nmOf (rsT F h x.1, F x.1)).length ≤ 1 := by unfold nmOf; split <;> simp
    rw [h1, List.length_append, List.length_cons]
    omega
theorem blwN_le (F : Nat → Fi) (h : ByteArray) (n : Nat) : ∀ k, (blwN F h n k).length ≤ k
  | 0 => by simp [blwN]
  | k + 1 => by
    have := blwN_le F h n k
    rw [blwN, List.length_append]
    split
    · split <;> simp <;> omega
    · simp; omega
theorem noSl_cut (s : ByteArray) (o : Nat) (ho : o ≤ s.size) : NoSl (s.extract o s.size) 0 (s.extract o s.size).size ↔ NoSl s o s.size := by
  have hz : (s.extract o s.size).size = s.size - o := by simp
  have hb : ∀ j, byteAt (s.extract o s.size) j = byteAt s (o + j) := fun j => byteAt_extract s o j
  constructor
  · intro h j h1 h2
    have := h (j - o) (by omega) (by omega)
    rw [hb] at this
    rwa [show o + (j - o) = j from by omega] at this
  · intro h j h1 h2
    rw [hb]
    exact h (o + j) (by omega) (by omega)
theorem nms_blw (F : Nat → Fi) (p : ByteArray) (n : Nat) : ∀ k, k ≤ n → (∀ i, i < n → PathOk (F i).p) → nms F (aheadT p) n (blwN F (aheadT p) n k) = lsL F p k
  | 0, _, _ => rfl
  | k + 1, hk, h => by
    have ih := nms_blw F p n k (by omega) h
    have pi := par_iff (p := p) (h k (by omega))
    by_cases h1 : HasPre (F k).p (aheadT p)
    · have nc := noSl_cut (F k).p (aheadT p).size h1.1
      rw [blwN_yes (by omega) h1, nms_snoc, ih]
      by_cases h2 : NoSl (F k).p (aheadT p).size (F k).p.size
      · rw [lsL_yes (pi.2 ⟨h1, h2⟩)]
        unfold nmOf rsT
        rw [if_pos (nc.2 h2)]
        rfl
      · rw [lsL_no (fun q => h2 (pi.1 q).2)]
        unfold nmOf rsT
        rw [if_neg (fun q => h2 (nc.1 q)), List.append_nil]
    · rw [blwN_no h1, ih, lsL_no (fun q => h1 (pi.1 q).1)]
end Go.Proofs.YtgcdoabcopihlaaGreat

/-
  ListDir of the program (written by tools/mklsi.py).
-/
namespace Go.Proofs.YtgcdoabcopihlaaGreat
open Go.ChangeShapes Go.WideShapes Go.ChangeAt Go.RowKit
set_option linter.unusedVariables false
/-- The names so far lie in the variable Bn and in a row of its own. -/
def NmI (F : Nat → Fi) (h : ByteArray) (n Bn B : Nat) (pre : List {i : Nat // i < n}) (W : World) : Prop := ∃ na nc, Bx1 W Bn (.slice na (nms F h n pre).length nc) ∧ EO W B 9 1 (.slice na (nms F h n pre).length nc) (nms F h n pre).length (pxF (nthT (nms F h n pre))) ∧ B ≤ W.heap.size
theorem nmI_own (F : Nat → Fi) (h : ByteArray) (n Bn B : Nat) : Own (fun pre W => NmI F h n Bn B pre W) := fun s X Y row hs hg hr => by
  obtain ⟨na, nc, h1, h2, h3⟩ := hs
  exact ⟨na, nc, bx1_own (β := Unit) Bn _ () X Y row h1 hg hr, eo_own (β := Unit) _ _ _ _ _ _ () X Y row h2 hg hr, Nat.le_trans h3 hg.size⟩
theorem wpListIn_append_run {F : Fence} {n : Nat} {P : Program} (w : World) {ops : Array Oper} {rest : List Oper} {o : Oper} {a : Act} {Q : Exit → Act → World → Prop}
    (hg : o.guard = none) (s x : Operand) (t : TypeId) (hop : o.op = Op.call { callee := Callee.builtin Builtin.append, args := #[s, x], argTypes := #[t, t] }) (v u v' : Value) (w' : World) (hs : a.eval s = v) (hx : a.eval x = u)
    (hrun : ∀ ty, (Builtin.append_ #[t, t] ty #[v, u]).run P w = .ok v' w') (hK : wpListIn F n P ops Q rest (a.put o.dst v') w') : wpListIn F n P ops Q (o :: rest) a w := by
  refine wpListIn_plain hg fun K hK' => ?_
  have hrun := hrun o.type
  unfold Oper.wpIn
  refine ⟨?_, ?_⟩
  · simp [Oper.about, hop, resolve, Target.leads, Sem.run_pure]
  · rw [Oper.semAt_plain F _ _ (by rw [hop]; intro c hc'; cases hc')]
    simp [execOp, hop, resolve, invoke, builtin, hs, hx, hrun, Result.andThen]
    exact hK' _ _ hK
theorem nm_more {Q : Nat → Prop} {W w : World} {Bn B k nc : Nat} {na : Option Addr} {L : List ByteArray} (nm : ByteArray) (h1 : Bx1 W Bn (.slice na k nc)) (h2 : EO W B 9 1 (.slice na k nc) k (pxF (nthT L))) (hk : k = L.length) (hB : B ≤ W.heap.size) (hBn : Bn < B) (hl : k ≤ 1000) (hQ : ∀ g, Q g → g < B ∧ g ≠ Bn) (hw0 : w.heap.size ≤ Bn) (hw : Below w.heap.size w W) :
    ∃ a' c' W', (∀ ty, (Builtin.append_ #[73, 73] ty #[.slice na k nc, .slice (some ⟨W.heap.size, 0, none⟩) 1 1]).run Tryz.prog (W.alloc (.cells #[.string nm] 9)) = .ok (.slice a' (k + 1) c') W') ∧ Bx1 W' Bn (.slice na k nc) ∧
      KeepsFrom B W (W'.setCell ⟨Bn, 0, none⟩ (.slice a' (k + 1) c')) ∧ KpQ Q W (W'.setCell ⟨Bn, 0, none⟩ (.slice a' (k + 1) c')) ∧ Bx1 (W'.setCell ⟨Bn, 0, none⟩ (.slice a' (k + 1) c')) Bn (.slice a' (k + 1) c') ∧ EO (W'.setCell ⟨Bn, 0, none⟩ (.slice a' (k + 1) c')) B 9 1 (.slice a' (k + 1) c') (k + 1) (pxF (nthT (L ++ [nm]))) ∧ B ≤ (W'.setCell ⟨Bn, 0, none⟩ (.slice a' (k + 1) c')).heap.size ∧ Below w.heap.size w (W'.setCell ⟨Bn, 0, none⟩ (.slice a' (k + 1) c')) := by
  obtain ⟨v', W', hr, hE, hg, hloc⟩ := appPx (W.alloc (.cells #[.string nm] 9)) B (.slice na k nc) k W.heap.size (nthT L) nm (by simp; omega) (by omega) (h2.below ((Below.refl _ _).alloc (Nat.le_refl _) _)) (fun j hj => by
    obtain rfl : j = 0 := by omega
    simp [pxV])
  obtain ⟨a', c', rfl⟩ := hE.form
  have hge : ∀ g, (Value.slice na k nc).ownBlock = some g → B ≤ g := fun g e => (h2.ge g e).1
  have hsz := hg.size
  rw [World.size_alloc] at hsz
  have keep : ∀ g, g < W.heap.size → (∀ q, (Value.slice na k nc).ownBlock = some q → q ≠ g) → W'.heap[g]? = W.heap[g]? := fun g hlt hne => (hg.block g (by rw [World.size_alloc]; omega) (fun e => hne g e.symm rfl)).trans (Below.heap_alloc _ _ _ hlt)
  have hlow : ∀ g, g < B → W'.heap[g]? = W.heap[g]? := fun g hlt => keep g (by omega) (fun q e h => by have := hge q e; omega)
  have hX : Bx1 W' Bn (.slice na k nc) := h1.ofBlock (hlow Bn hBn)
  refine ⟨a', c', W', hr, hX, ?_, ?_, hX.set _, ?_, by simp; omega, ?_⟩
  · refine ⟨by simp; omega, fun g o hBg hgo ho => ?_⟩
    have hne : g ≠ Bn := by omega
    rw [Below.heap_setCell _ _ _ g hne, ← hgo]
    refine keep g (Array.getElem?_eq_some_iff.1 hgo).1 (fun q e h => ?_)
    subst h
    obtain ⟨cur, hcur⟩ := eo_heap h2 q e
    rw [hcur] at hgo
    cases hgo
    cases ho
  · exact ⟨by simp; omega, fun g hg' => by rw [Below.heap_setCell _ _ _ g (hQ g hg').2]; exact hlow g (hQ g hg').1⟩
  · refine (hE.pxCongr (fun i hi => ?_)).keep (fun g e => Below.heap_setCell _ _ _ g (by have := (hE.ge g e).1; show g ≠ Bn; omega))
    subst hk
    exact nthT_snoc L nm i hi
  · exact ((hw.trans (((Below.refl _ _).alloc (Nat.le_refl _) _).mono hw.size)).grown hg (by have := hw.size; simp; omega) (fun g e => by have := hge g e; omega)).setCell (p := ⟨Bn, 0, none⟩) hw0 _
theorem KpQ.alloc {Q : Nat → Prop} (W : World) (o : Obj) (hQ : ∀ g, Q g → g < W.heap.size) : KpQ Q W (W.alloc o) := ⟨by simp, fun g hg => Below.heap_alloc _ _ _ (hQ g hg)⟩
set_option maxRecDepth 100000 in
set_option maxHeartbeats 4000000 in
theorem implLs_any (a : Option Addr) (n c : Nat) (F : Nat → Fi) (p : ByteArray) (hsz : ∀ i, i < n → (F i).p.size ≤ 1048576) (hnn : n ≤ 1048576) (hsl : SlP a n c) (hpz : p.size ≤ 1048576) (w : World) (h : Els w 3 a n (fiF F)) :
    Calls Tryz.prog 58 #[.slice a n c, .string p] w fun e w' => (∃ L cd, LsIs n F p L cd ∧ RetNm L cd w.heap.size e w') ∧ Below w.heap.size w w' := by
  refine (callsIn_wide (n := 3)).1 ?_
  obtain ⟨v1, hv1⟩ : ∃ v, v = w.alloc (.cells #[.string p] 9) := ⟨_, rfl⟩
  have A1 : Below w.heap.size w v1 := by rw [hv1]; exact (Below.refl _ _).alloc (Nat.le_refl _) _
  have FF : Hid (CallsIn Fence.wide 2 Tryz.prog 78 #[.slice a n c, .slice (some ⟨w.heap.size, 0, none⟩) 1 1] v1 fun e w' => (∃ x : Int, e = .returned (.int .i64 x) ∧ FtIs n F 1 (fun _ => p) x) ∧ Below v1.heap.size v1 w') := callsIn_wide.2 (filesFault_any a n c F _ 1 1 (fun _ => p) hsz hnn hsl (by omega) v1 (h.below A1) (by rw [hv1]; exact strs_lit w p))
  have F0 : Hid (∀ w' : World, Below w.heap.size w w' → CallsIn Fence.wide 2 Tryz.prog 78 #[.slice a n c, .slice none 0 0] w' fun e w'' => (∃ x : Int, e = .returned (.int .i64 x) ∧ FtIs n F 0 (fun _ => p) x) ∧ Below w'.heap.size w' w'') := fun w' hb => callsIn_wide.2 (filesFault_any a n c F _ 0 0 (fun _ => p) hsz hnn hsl (by omega) w' (h.below hb) (fun i hi => absurd hi (by omega)))
  have BV : Hid (Below w.heap.size w v1) := A1
  have HW : Hid (w.alloc (.cells #[.string p] 9) = v1) := hv1.symm
  have H : Hid (Els w 3 a n (fiF F)) := h
  have HN : Hid (n ≤ 1048576) := hnn
  clear h hsz A1 hv1 hsl hnn
  refine callsIn_of_wp_marks Tryz.func58 rfl trivial ?_ rfl
  simp only [Tryz.ntmps58, List.size_toArray, List.length_cons, List.length_nil, Nat.reduceAdd, Nat.reduceSub, Array.replicate_succ, Array.replicate_zero, List.push_toArray, List.append_toArray, List.nil_append, List.cons_append]
  gi_wp2_with fail
  rw [HW.out]
  refine ⟨trivial, (CallsIn.mono FF.out) ?_⟩
  rintro e v2 ⟨⟨x, rfl, hx⟩, hb⟩
  have B2 : Hid (Below w.heap.size w v2) := BV.out.trans (hb.mono BV.out.size)
  have HX : Hid (FtIs n F 1 (fun _ => p) x) := hx
  clear hx hb FF BV HW
  rcases Nat.eq_zero_or_pos p.size with hz | hz
  · obtain rfl : p = ⟨#[]⟩ := ByteArray.ext (Array.eq_empty_of_size_eq_zero hz)
    clear HX hz hpz
    obtain ⟨x0, hx0⟩ : ∃ t, t = x := ⟨_, rfl⟩
    rw [← hx0]
    clear hx0
    gi_wp2_with fail
    refine ⟨trivial, (CallsIn.mono (F0.out _ B2.out)) ?_⟩
    rintro e v3 ⟨⟨y, rfl, hy⟩, hb⟩
    have B3 : Hid (Below w.heap.size w v3) := B2.out.trans (hb.mono B2.out.size)
    have HY : Hid (FtIs n F 0 (fun _ => ⟨#[]⟩) y) := hy
    clear hy hb F0 B2
    by_cases h0 : y = 0
    · subst h0
      obtain ⟨ho, hp, hn4, -⟩ := HY.out.ok
      have HPK : Hid (∀ i, i < n → PathOk (F i).p) := fun i hi => (ho.2 i hi).1.1
      have hn12 := ho.1
      have HS : Hid (Srt n F) := ho.srt
      have HP40 : Hid ((⟨#[]⟩ : ByteArray).size ≤ 40) := by show (0 : Nat) ≤ 40; omega
      have DF : Hid (∀ w' : World, Below w.heap.size w w' → CallsIn Fence.wide 2 Tryz.prog 32 #[.slice a n c, .string ⟨#[]⟩] w' fun e w'' => (∃ x : Int, e = .returned (.int .i64 x) ∧ DirIs n F ⟨#[]⟩ x) ∧ Below w'.heap.size w' w'') := fun w' hb => callsIn_wide.2 (dirFault_any a n c F ⟨#[]⟩ ho.srt HP40.out HN.out w' (H.out.below hb))
      have BL : Hid (∀ w' : World, CallsIn Fence.wide 2 Tryz.prog 89 #[.slice a n c, .string ⟨#[]⟩] w' fun e w'' => e = .returned (.func (.func 113) #[] #[.pointer (some ⟨w'.heap.size + 1, 0, none⟩), .pointer (some ⟨w'.heap.size, 0, none⟩)]) ∧ w'' = (w'.alloc (.cells #[.slice a n c] 23)).alloc (.cells #[.string ⟨#[]⟩] 9)) := fun w' => callsIn_wide.2 (below_any a n c ⟨#[]⟩ w')
      clear ho hp hn4
      gi_wp2_with fail
      refine ⟨trivial, (DF.out _ B3.out).mono ?_⟩
      rintro e v4 ⟨⟨z, rfl, hz4⟩, hb⟩
      have B4 : Hid (Below w.heap.size w v4) := B3.out.trans (hb.mono B3.out.size)
      have HD : Hid (DirIs n F ⟨#[]⟩ z) := hz4
      clear hz4 hb DF B3
      by_cases h1 : z = 0
      · subst h1
        have HM : Hid (LsIs n F ⟨#[]⟩ (lsL F ⟨#[]⟩ n) 0) := .inl ⟨rfl, .inr ⟨HY.out, rfl, rfl⟩⟩
        obtain ⟨v5, hv5⟩ : ∃ v, v = v4.alloc (.cells #[.slice none 0 0] 73) := ⟨_, rfl⟩
        have hb5 : Below v4.heap.size v4 v5 := by rw [hv5]; exact (Below.refl _ _).alloc (Nat.le_refl _) _
        have N5 : Hid (Bx1 v5 v4.heap.size (.slice none 0 0)) := by show Bx1 _ _ _; rw [hv5]; exact Bx1.new _ _ _
        have HV5 : Hid (v4.alloc (.cells #[.slice none 0 0] 73) = v5) := hv5.symm
        have B5 : Hid (Below w.heap.size w v5) := B4.out.trans (hb5.mono B4.out.size)
        clear hb5 hv5 HY HD
        gi_wp2_with fail
        rw [HV5.out]
        refine ⟨trivial, (BL.out _).mono ?_⟩
        rintro e v6 ⟨rfl, hv6⟩
        have hb6 : Below v5.heap.size v5 v6 := by rw [hv6]; exact ((Below.refl _ _).alloc (Nat.le_refl _) _).alloc (by simp) _
        have L6 : Bx1 v6 v5.heap.size (.slice a n c) := by rw [hv6]; exact (Bx1.new _ _ _).alloc _
        have M6 : Bx1 v6 (v5.heap.size + 1) (.string ⟨#[]⟩) := by rw [hv6]; have := Bx1.new (v5.alloc (.cells #[.slice a n c] 23)) (.string ⟨#[]⟩) 9; rw [World.size_alloc] at this; exact this
        have s6 : v6.heap.size = v5.heap.size + 2 := by rw [hv6]; simp
        have B6 : Hid (Below w.heap.size w v6) := B5.out.trans (hb6.mono B5.out.size)
        have N6 : Hid (Bx1 v6 v4.heap.size (.slice none 0 0)) := N5.out.below hb6
        have T6 : Hid (w.heap.size ≤ v4.heap.size ∧ v4.heap.size < v5.heap.size) := ⟨B4.out.size, N5.out.lt⟩
        have SQ := below_stopsN (fun g => g = v5.heap.size ∨ g = v5.heap.size + 1 ∨ g < w.heap.size) (v5.heap.size + 1) v5.heap.size a n c F ⟨#[]⟩ v6 (3 - 1) M6.1 L6.1 (H.out.below B6.out) (.inr (.inl rfl)) (.inl rfl) (fun hn0 q e => by
          obtain ⟨b', off', e', hc⟩ := H.out 0 hn0
          have hlt := strBlock (hc 0 (by omega))
          rw [e'] at e
          cases e
          exact .inr (.inr hlt)) (by omega) HP40.out (fun g hg => by have := B5.out.size; rcases hg with rfl | rfl | hg <;> omega)
        clear hb6 L6 M6 hv6 B5 N5 BL HV5 B4
        obtain ⟨Bn, hBn⟩ : ∃ x, x = v4.heap.size := ⟨_, rfl⟩
        rw [← hBn] at N6 T6 ⊢
        clear hBn
        gi_wp2_with fail
        have HQ : Hid (∀ g, (g = v5.heap.size ∨ g = v5.heap.size + 1 ∨ g < w.heap.size) → g < v6.heap.size ∧ g ≠ Bn) := fun g hg => by have h1 := B6.out.size; have h2 := T6.out; rcases hg with rfl | rfl | hg <;> omega
        refine wpIn_rangeFunc_ownH rfl (by omega) (gf := 113) (lb := #[.pointer (some ⟨v5.heap.size + 1, 0, none⟩), .pointer (some ⟨v5.heap.size, 0, none⟩)]) rfl trivial (enters_of Tryz.func113 (by kernel_rfl) rfl)
          SQ KpQ.tr (fun W l o o' hl hh _ _ => KpQ.put (w := v6) (fun g hg => (HQ.out g hg).1) W l o o' hl hh) (Below.refl _ _) (fun _ => rfl)
          (fun pre W => NmI F (aheadT ⟨#[]⟩) n Bn v6.heap.size pre W ∧ Below w.heap.size w W) (fun _ _ _ => False)
          (OwnFrom.and (Own.from (nmI_own _ _ _ _ _) _) (ownFrom_below (Nat.le_refl _) B6.out.size)) (fun _ => fun _ _ _ _ hs _ _ => hs)
          ⟨⟨none, 0, N6.out, EO.nil _ _ _ _ _, Nat.le_refl _⟩, B6.out⟩
          (fun x a' W => ∃ g, a' = { tmps := #[.slice a n c, .string ⟨#[]⟩, undef, undef, .slice none 0 0, .int .i64 0, .int .i64 0, .int .i64 0, .pointer (some ⟨Bn, 0, none⟩), .string (rsT F (aheadT ⟨#[]⟩) x.1), .pointer (some ⟨g, 0, none⟩), undef, undef, undef, .slice a n c, .string ⟨#[]⟩, .slice (some ⟨w.heap.size, 0, none⟩) 1 1, .int .i64 x0, .string ⟨#[]⟩, .bool true, .slice a n c, .int .i64 0, .int .i64 0, .bool false, undef, .slice a n c, .string ⟨#[]⟩, .int .i64 0, .int .i64 0, .bool false, undef, .slice a n c, .string ⟨#[]⟩, .func (.func 113) #[] #[.pointer (some ⟨v5.heap.size + 1, 0, none⟩), .pointer (some ⟨v5.heap.size, 0, none⟩)], .string (rsT F (aheadT ⟨#[]⟩) x.1), .agg #[.string (F x.1).p, .bool (F x.1).d, .string (F x.1).t], undef, undef, undef, undef, undef, undef, undef, undef, undef, undef, undef, undef, undef, undef, undef, undef], defers := [] } ∧ v6.heap.size ≤ g ∧ W.cell? ⟨g, 1, none⟩ = some (.bool (F x.1).d))
          (fun x a' => Own.from (fun s X Y row hs hg hr => by obtain ⟨g, e1, e2, e3⟩ := hs; exact ⟨g, e1, e2, cell_kept e3 hg hr⟩) _) ?assign ?body ?done ?stop
        case assign =>
          intro l pre x W K hi hK
          have HRS : Hid (rsT F (aheadT ⟨#[]⟩) x.1 = (F x.1).p.extract (aheadT ⟨#[]⟩).size (F x.1).p.size) := rfl
          simp only [encN, encB]
          rw [← HRS.out]
          obtain ⟨R, hR⟩ : ∃ R, R = rsT F (aheadT ⟨#[]⟩) x.1 := ⟨_, rfl⟩
          rw [← hR] at hK ⊢
          clear HRS hR
          generalize F x.1 = y at *
          obtain ⟨yp, yd, yt⟩ := y
          dsimp only at hK ⊢
          have HK : Hid _ := hK
          have HI : Hid _ := hi
          clear hK hi SQ HPK HN H s6 hn12
          refine Eq.mp (congrArg (fun t => Code.wpIn _ _ _ _ _ { tmps := t, defers := [] } W) (show (#[.slice a n c, .string ⟨#[]⟩, undef, undef, .slice none 0 0, .int .i64 0, .int .i64 0, .int .i64 0, .pointer (some ⟨Bn, 0, none⟩), undef, undef, undef, undef, undef, .slice a n c, .string ⟨#[]⟩, .slice (some ⟨w.heap.size, 0, none⟩) 1 1, .int .i64 x0, .string ⟨#[]⟩, .bool true, .slice a n c, .int .i64 0, .int .i64 0, .bool false, undef, .slice a n c, .string ⟨#[]⟩, .int .i64 0, .int .i64 0, .bool false, undef, .slice a n c, .string ⟨#[]⟩, .func (.func 113) #[] #[.pointer (some ⟨v5.heap.size + 1, 0, none⟩), .pointer (some ⟨v5.heap.size, 0, none⟩)], .string R, .agg #[.string yp, .bool yd, .string yt], undef, undef, undef, undef, undef, undef, undef, undef, undef, undef, undef, undef, undef, undef, undef, undef] : Array Value) = _ from by simp)) ?_
          have SA : ∀ (ρ : Operand → Value) (o : Oper), (∀ c, o.op ≠ .defer c) → Oper.semAt (some l) ρ o = execOp ρ o := fun ρ o h => Oper.semAt_some l ρ o h
          gi_wp2
          have HS6 : v6.heap.size ≤ W.heap.size := by obtain ⟨⟨_, _, _, _, h⟩, _⟩ := HI.out; exact h
          refine HK.out _ _ ((KeepsOthers.alloc _ _).from _) (KpQ.alloc _ _ (fun g hg => Nat.lt_of_lt_of_le (HQ.out g hg).1 HS6)) ?_ ⟨W.heap.size, rfl, HS6, by simp⟩
          exact OwnFrom.alloc (OwnFrom.and (Own.from (nmI_own F (aheadT ⟨#[]⟩) n Bn v6.heap.size) _) (ownFrom_below (Nat.le_refl _) B6.out.size)) _ HI.out
        case body =>
          rintro l pre x a' W hl hlp ⟨⟨na, nc, hBx, hE, hBs⟩, hBW⟩ ⟨g, rfl, hgv, hg1⟩ hlen
          have hR40 : (rsT F (aheadT ⟨#[]⟩) x.1).size ≤ 40 := by have := (HPK.out x.1 x.2).1; unfold rsT; simp; omega
          have HNm : Hid (nms F (aheadT ⟨#[]⟩) n (pre ++ [x]) = nms F (aheadT ⟨#[]⟩) n pre ++ nmOf (rsT F (aheadT ⟨#[]⟩) x.1, F x.1)) := nms_snoc _ _ _ _ _
          have hL : (nms F (aheadT ⟨#[]⟩) n pre).length ≤ 12 := by have h1 := nms_le F (aheadT ⟨#[]⟩) n pre; have h2 := blwN_le F (aheadT ⟨#[]⟩) n n; omega
          have HI : Hid (∀ (W3 : World) (na : Option Addr) (nc : Nat) (L' : List ByteArray), nms F (aheadT ⟨#[]⟩) n (pre ++ [x]) = L' → Bx1 W3 Bn (.slice na L'.length nc) → EO W3 v6.heap.size 9 1 (.slice na L'.length nc) L'.length (pxF (nthT L')) → v6.heap.size ≤ W3.heap.size → NmI F (aheadT ⟨#[]⟩) n Bn v6.heap.size (pre ++ [x]) W3) := fun W3 na nc L' e q1 q2 q3 => by
            subst e
            exact ⟨na, nc, q1, q2, q3⟩
          have CT : Hid (CallsIn (Fence.wide.inRound l) (3 - 1 - 1 - 1) Tryz.prog 91 #[.string (rsT F (aheadT ⟨#[]⟩) x.1), .string ⟨#[47]⟩] W fun e w' => CutIs (rsT F (aheadT ⟨#[]⟩) x.1) 0 e ∧ Below W.heap.size W w' ∧ w'.heap = W.heap) := CallsIn.inRound l (callsIn_wide.2 (cut_any _ _ (by omega)))
          dsimp only
          generalize rsT F (aheadT ⟨#[]⟩) x.1 = R at *
          generalize nms F (aheadT ⟨#[]⟩) n pre = L at *
          generalize F x.1 = y at *
          obtain ⟨yp, yd, yt⟩ := y
          dsimp only at *
          obtain ⟨k, hk⟩ : ∃ k, k = L.length := ⟨_, rfl⟩
          rw [← hk] at hBx hE hL
          have HKL : Hid (k = L.length) := hk
          clear hk
          have SA : ∀ (ρ : Operand → Value) (o : Oper), (∀ c, o.op ≠ .defer c) → Oper.semAt (some l) ρ o = execOp ρ o := fun ρ o h => Oper.semAt_some l ρ o h
          have HX : Hid (Bx1 W Bn (.slice na k nc)) := hBx
          have HE : Hid (EO W v6.heap.size 9 1 (.slice na k nc) k (pxF (nthT L))) := hE
          have HBS : Hid (v6.heap.size ≤ W.heap.size) := hBs
          have HBW : Hid (Below w.heap.size w W) := hBW
          have HG1 : Hid (W.cell? ⟨g, 1, none⟩ = some (.bool yd)) := hg1
          clear hBx hE hBs hBW hg1 hlp hlen HPK HN H s6
          gi_wp2_with fail
          refine ⟨trivial, (CallsIn.mono CT.out) ?_⟩
          rintro e W1 ⟨hcut, hb1, hh⟩
          have X1 : Hid (Bx1 W1 Bn (.slice na k nc)) := HX.out.ofBlock (by rw [hh])
          have E1 : Hid (EO W1 v6.heap.size 9 1 (.slice na k nc) k (pxF (nthT L))) := HE.out.keep (fun g e => by rw [hh])
          have gd := (World.cell?_of_block (w := W) (w' := W1) (a := ⟨g, 1, none⟩) (by rw [hh])).trans HG1.out
          have BS1 : Hid (v6.heap.size ≤ W1.heap.size) := by show _ ≤ _; rw [hh]; exact HBS.out
          have BW1 : Hid (Below w.heap.size w W1) := HBW.out.trans (hb1.mono HBW.out.size)
          have KF : Hid (KeepsFrom v6.heap.size W W1) := ⟨by rw [hh]; exact Nat.le_refl _, fun k o _ hk _ => by rw [hh]; exact hk⟩
          have KQ : Hid (KpQ (fun g => g = v5.heap.size ∨ g = v5.heap.size + 1 ∨ g < w.heap.size) W W1) := ⟨by rw [hh]; exact Nat.le_refl _, fun g _ => by rw [hh]⟩
          have HB6 : Hid (Bn < v6.heap.size) := by have h1 := (HQ.out v5.heap.size (.inl rfl)).1; have h2 := T6.out.2; show _ < _; omega
          clear hh hb1 HX HE HBS HBW HG1 CT N6 HS
          have xc := X1.out.1
          have xf := X1.out.2
          rcases hcut with ⟨hns, rfl⟩ | ⟨j, h1, h2, h3, h4, rfl⟩
          · rw [ByteArray.extract_zero_size]
            have HNS : Hid (nmOf (R, (⟨yp, yd, yt⟩ : Fi)) = [if yd then R ++ ⟨#[47]⟩ else R]) := by show _ = _; unfold nmOf; rw [if_pos hns]
            clear hns
            have rz : R.size + 1 ≤ 9223372036854775807 := by omega
            cases yd with
            | true =>
              obtain ⟨a', c', W', hr, hX2, hKF, hKQ, hX3, hE3, hS3, hB3⟩ := nm_more (R ++ ⟨#[47]⟩) X1.out E1.out HKL.out BS1.out HB6.out (by omega) HQ.out T6.out.1 BW1.out
              have y0 := hX2.1
              have y1 := hX2.2
              have HF : Hid (NmI F (aheadT ⟨#[]⟩) n Bn v6.heap.size (pre ++ [x]) (W'.setCell ⟨Bn, 0, none⟩ (.slice a' (k + 1) c'))) := HI.out _ a' c' (L ++ [R ++ ⟨#[47]⟩]) (by rw [HNm.out, HNS.out]; rfl) (by rw [List.length_append, ← HKL.out]; exact hX3) (by rw [List.length_append, ← HKL.out]; exact hE3) hS3
              have HZ : Hid (KeepsFrom v6.heap.size W (W'.setCell ⟨Bn, 0, none⟩ (.slice a' (k + 1) c')) ∧ KpQ (fun g => g = v5.heap.size ∨ g = v5.heap.size + 1 ∨ g < w.heap.size) W (W'.setCell ⟨Bn, 0, none⟩ (.slice a' (k + 1) c')) ∧ NmI F (aheadT ⟨#[]⟩) n Bn v6.heap.size (pre ++ [x]) (W'.setCell ⟨Bn, 0, none⟩ (.slice a' (k + 1) c')) ∧ Below w.heap.size w (W'.setCell ⟨Bn, 0, none⟩ (.slice a' (k + 1) c'))) := ⟨KF.out.trans hKF, KQ.out.tr hKQ, HF.out, hB3⟩
              clear hX2 hKF hKQ hX3 hE3 hS3 hB3 HF HI HNm HNS E1 X1 HKL
              gi_wp2_with (gi_at_builtin; refine wpListIn_append_run _ rfl (.tmp 47) (.tmp 49) 73 rfl _ _ _ _ rfl rfl hr ?_)
              gi_wp2
              exact HZ.out
            | false =>
              obtain ⟨a', c', W', hr, hX2, hKF, hKQ, hX3, hE3, hS3, hB3⟩ := nm_more R X1.out E1.out HKL.out BS1.out HB6.out (by omega) HQ.out T6.out.1 BW1.out
              have y0 := hX2.1
              have y1 := hX2.2
              have HF : Hid (NmI F (aheadT ⟨#[]⟩) n Bn v6.heap.size (pre ++ [x]) (W'.setCell ⟨Bn, 0, none⟩ (.slice a' (k + 1) c'))) := HI.out _ a' c' (L ++ [R]) (by rw [HNm.out, HNS.out]; rfl) (by rw [List.length_append, ← HKL.out]; exact hX3) (by rw [List.length_append, ← HKL.out]; exact hE3) hS3
              have HZ : Hid (KeepsFrom v6.heap.size W (W'.setCell ⟨Bn, 0, none⟩ (.slice a' (k + 1) c')) ∧ KpQ (fun g => g = v5.heap.size ∨ g = v5.heap.size + 1 ∨ g < w.heap.size) W (W'.setCell ⟨Bn, 0, none⟩ (.slice a' (k + 1) c')) ∧ NmI F (aheadT ⟨#[]⟩) n Bn v6.heap.size (pre ++ [x]) (W'.setCell ⟨Bn, 0, none⟩ (.slice a' (k + 1) c')) ∧ Below w.heap.size w (W'.setCell ⟨Bn, 0, none⟩ (.slice a' (k + 1) c'))) := ⟨KF.out.trans hKF, KQ.out.tr hKQ, HF.out, hB3⟩
              clear hX2 hKF hKQ hX3 hE3 hS3 hB3 HF HI HNm HNS E1 X1 HKL
              gi_wp2_with (gi_at_builtin; refine wpListIn_append_run _ rfl (.tmp 47) (.tmp 49) 73 rfl _ _ _ _ rfl rfl hr ?_)
              gi_wp2
              exact HZ.out
          · have HZ : Hid (KeepsFrom v6.heap.size W W1 ∧ KpQ (fun g => g = v5.heap.size ∨ g = v5.heap.size + 1 ∨ g < w.heap.size) W W1 ∧ NmI F (aheadT ⟨#[]⟩) n Bn v6.heap.size (pre ++ [x]) W1 ∧ Below w.heap.size w W1) := ⟨KF.out, KQ.out, HI.out W1 na nc L (by rw [HNm.out]; unfold nmOf; rw [if_neg (fun q => q j h1 h2 h3), List.append_nil]) (by rw [← HKL.out]; exact X1.out) (by rw [← HKL.out]; exact E1.out) BS1.out, BW1.out⟩
            clear HI HNm E1 X1 HKL h1 h3 h4
            gi_wp2
            exact HZ.out
        case done =>
          rintro D xs W hD hxs ⟨⟨na, nc, hBx, hE, hBs⟩, hBW⟩ hK
          subst hxs
          rw [nms_blw F (⟨#[]⟩ : ByteArray) n n (Nat.le_refl _) HPK.out] at hBx hE
          have HE : Hid (EO W v6.heap.size 9 1 (.slice na (lsL F (⟨#[]⟩ : ByteArray) n).length nc) (lsL F (⟨#[]⟩ : ByteArray) n).length (pxF (nthT (lsL F (⟨#[]⟩ : ByteArray) n)))) := hE
          have HBW : Hid (Below w.heap.size w W) := hBW
          have HK : Hid (W.heap[D]? = some (.deferred (some []))) := hK
          generalize lsL F (⟨#[]⟩ : ByteArray) n = L at *
          have xc := hBx.1
          clear hBx hE hBW hK HPK HN H s6 SQ
          gi_wp2
          refine ⟨by simp, .inl ⟨_, _, rfl, run_takeDeferred HK.out, ?_⟩⟩
          have E3 := eo_own (β := Unit) _ _ _ _ _ _ () _ _ (some D) HE.out (grownBy_putObj' _ D (.deferred none)) (fun r e => by cases e; exact ⟨_, HK.out, rfl⟩)
          exact ⟨.tuple #[.slice na L.length nc, .int .i64 0], by simp [results, Tryz.f58, go_sem], ⟨L, 0, HM.out, ⟨na, nc, rfl, E3.mono (by have := B6.out.size; omega)⟩⟩, HBW.out.trans (belowK_b (w := w) (Nat.le_refl _) W D _ _ (by have := B6.out.size; omega) HK.out rfl rfl)⟩
        case stop =>
          rintro D cc pre W hD hpre h hK
          exact h.elim
      · exact absurd (show z = 0 by rcases HD.out with ⟨_, h⟩ | ⟨h, _⟩ | ⟨h, _⟩; exact h; exact absurd h (by decide); exact absurd h (by decide)) h1
    · have yb : (y != 0) = true := by simpa using h0
      have HM : Hid (LsIs n F ⟨#[]⟩ [] y) := .inl ⟨rfl, .inl ⟨HY.out, h0, rfl⟩⟩
      clear HY h0
      gi_wp2
      exact ⟨.tuple #[.slice none 0 0, .int .i64 y], by simp [results, Tryz.f58, go_sem], ⟨[], y, HM.out, ⟨none, 0, rfl, EO.nil _ _ _ _ _⟩⟩, B3.out⟩
  · have g1 : (p.toList == []) = false := textEmpty hz
    have g2 : p.toList.isEmpty = false := textEmpty2 hz
    have HZ : Hid (0 < p.size) := hz
    have HY : Hid (FtIs n F 1 (fun _ => p) x) := HX.out
    clear HX F0 hz hpz
    by_cases h0 : x = 0
    · subst h0
      obtain ⟨ho, hp, hn4, -⟩ := HY.out.ok
      have HPK : Hid (∀ i, i < n → PathOk (F i).p) := fun i hi => (ho.2 i hi).1.1
      have hn12 := ho.1
      have HS : Hid (Srt n F) := ho.srt
      have HP40 : Hid ((p : ByteArray).size ≤ 40) := (hp 0 (by omega)).1
      have DF : Hid (∀ w' : World, Below w.heap.size w w' → CallsIn Fence.wide 2 Tryz.prog 32 #[.slice a n c, .string p] w' fun e w'' => (∃ x : Int, e = .returned (.int .i64 x) ∧ DirIs n F p x) ∧ Below w'.heap.size w' w'') := fun w' hb => callsIn_wide.2 (dirFault_any a n c F p ho.srt HP40.out HN.out w' (H.out.below hb))
      have BL : Hid (∀ w' : World, CallsIn Fence.wide 2 Tryz.prog 89 #[.slice a n c, .string p] w' fun e w'' => e = .returned (.func (.func 113) #[] #[.pointer (some ⟨w'.heap.size + 1, 0, none⟩), .pointer (some ⟨w'.heap.size, 0, none⟩)]) ∧ w'' = (w'.alloc (.cells #[.slice a n c] 23)).alloc (.cells #[.string p] 9)) := fun w' => callsIn_wide.2 (below_any a n c p w')
      clear ho hp hn4
      gi_wp2_with fail
      refine ⟨trivial, (DF.out _ B2.out).mono ?_⟩
      rintro e v4 ⟨⟨z, rfl, hz4⟩, hb⟩
      have B4 : Hid (Below w.heap.size w v4) := B2.out.trans (hb.mono B2.out.size)
      have HD : Hid (DirIs n F p z) := hz4
      clear hz4 hb DF B2
      by_cases h1 : z = 0
      · subst h1
        have HM : Hid (LsIs n F p (lsL F p n) 0) := .inr ⟨HZ.out, .inr ⟨HY.out, .inr ⟨HD.out, rfl, rfl⟩⟩⟩
        obtain ⟨v5, hv5⟩ : ∃ v, v = v4.alloc (.cells #[.slice none 0 0] 73) := ⟨_, rfl⟩
        have hb5 : Below v4.heap.size v4 v5 := by rw [hv5]; exact (Below.refl _ _).alloc (Nat.le_refl _) _
        have N5 : Hid (Bx1 v5 v4.heap.size (.slice none 0 0)) := by show Bx1 _ _ _; rw [hv5]; exact Bx1.new _ _ _
        have HV5 : Hid (v4.alloc (.cells #[.slice none 0 0] 73) = v5) := hv5.symm
        have B5 : Hid (Below w.heap.size w v5) := B4.out.trans (hb5.mono B4.out.size)
        clear hb5 hv5 HY HD HZ
        gi_wp2_with fail
        rw [HV5.out]
        refine ⟨trivial, (BL.out _).mono ?_⟩
        rintro e v6 ⟨rfl, hv6⟩
        have hb6 : Below v5.heap.size v5 v6 := by rw [hv6]; exact ((Below.refl _ _).alloc (Nat.le_refl _) _).alloc (by simp) _
        have L6 : Bx1 v6 v5.heap.size (.slice a n c) := by rw [hv6]; exact (Bx1.new _ _ _).alloc _
        have M6 : Bx1 v6 (v5.heap.size + 1) (.string p) := by rw [hv6]; have := Bx1.new (v5.alloc (.cells #[.slice a n c] 23)) (.string p) 9; rw [World.size_alloc] at this; exact this
        have s6 : v6.heap.size = v5.heap.size + 2 := by rw [hv6]; simp
        have B6 : Hid (Below w.heap.size w v6) := B5.out.trans (hb6.mono B5.out.size)
        have N6 : Hid (Bx1 v6 v4.heap.size (.slice none 0 0)) := N5.out.below hb6
        have T6 : Hid (w.heap.size ≤ v4.heap.size ∧ v4.heap.size < v5.heap.size) := ⟨B4.out.size, N5.out.lt⟩
        have SQ := below_stopsN (fun g => g = v5.heap.size ∨ g = v5.heap.size + 1 ∨ g < w.heap.size) (v5.heap.size + 1) v5.heap.size a n c F p v6 (3 - 1) M6.1 L6.1 (H.out.below B6.out) (.inr (.inl rfl)) (.inl rfl) (fun hn0 q e => by
          obtain ⟨b', off', e', hc⟩ := H.out 0 hn0
          have hlt := strBlock (hc 0 (by omega))
          rw [e'] at e
          cases e
          exact .inr (.inr hlt)) (by omega) HP40.out (fun g hg => by have := B5.out.size; rcases hg with rfl | rfl | hg <;> omega)
        clear hb6 L6 M6 hv6 B5 N5 BL HV5 B4
        obtain ⟨Bn, hBn⟩ : ∃ x, x = v4.heap.size := ⟨_, rfl⟩
        rw [← hBn] at N6 T6 ⊢
        clear hBn
        gi_wp2_with fail
        have HQ : Hid (∀ g, (g = v5.heap.size ∨ g = v5.heap.size + 1 ∨ g < w.heap.size) → g < v6.heap.size ∧ g ≠ Bn) := fun g hg => by have h1 := B6.out.size; have h2 := T6.out; rcases hg with rfl | rfl | hg <;> omega
        refine wpIn_rangeFunc_ownH rfl (by omega) (gf := 113) (lb := #[.pointer (some ⟨v5.heap.size + 1, 0, none⟩), .pointer (some ⟨v5.heap.size, 0, none⟩)]) rfl trivial (enters_of Tryz.func113 (by kernel_rfl) rfl)
          SQ KpQ.tr (fun W l o o' hl hh _ _ => KpQ.put (w := v6) (fun g hg => (HQ.out g hg).1) W l o o' hl hh) (Below.refl _ _) (fun _ => rfl)
          (fun pre W => NmI F (aheadT p) n Bn v6.heap.size pre W ∧ Below w.heap.size w W) (fun _ _ _ => False)
          (OwnFrom.and (Own.from (nmI_own _ _ _ _ _) _) (ownFrom_below (Nat.le_refl _) B6.out.size)) (fun _ => fun _ _ _ _ hs _ _ => hs)
          ⟨⟨none, 0, N6.out, EO.nil _ _ _ _ _, Nat.le_refl _⟩, B6.out⟩
          (fun x a' W => ∃ g, a' = { tmps := #[.slice a n c, .string p, undef, undef, .slice none 0 0, .int .i64 0, .int .i64 0, .int .i64 0, .pointer (some ⟨Bn, 0, none⟩), .string (rsT F (aheadT p) x.1), .pointer (some ⟨g, 0, none⟩), undef, undef, undef, .slice a n c, .string p, .slice (some ⟨w.heap.size, 0, none⟩) 1 1, .int .i64 0, .string p, .bool false, undef, undef, .int .i64 0, .bool false, undef, .slice a n c, .string p, .int .i64 0, .int .i64 0, .bool false, undef, .slice a n c, .string p, .func (.func 113) #[] #[.pointer (some ⟨v5.heap.size + 1, 0, none⟩), .pointer (some ⟨v5.heap.size, 0, none⟩)], .string (rsT F (aheadT p) x.1), .agg #[.string (F x.1).p, .bool (F x.1).d, .string (F x.1).t], undef, undef, undef, undef, undef, undef, undef, undef, undef, undef, undef, undef, undef, undef, undef, undef], defers := [] } ∧ v6.heap.size ≤ g ∧ W.cell? ⟨g, 1, none⟩ = some (.bool (F x.1).d))
          (fun x a' => Own.from (fun s X Y row hs hg hr => by obtain ⟨g, e1, e2, e3⟩ := hs; exact ⟨g, e1, e2, cell_kept e3 hg hr⟩) _) ?assign ?body ?done ?stop
        case assign =>
          intro l pre x W K hi hK
          have HRS : Hid (rsT F (aheadT p) x.1 = (F x.1).p.extract (aheadT p).size (F x.1).p.size) := rfl
          simp only [encN, encB]
          rw [← HRS.out]
          obtain ⟨R, hR⟩ : ∃ R, R = rsT F (aheadT p) x.1 := ⟨_, rfl⟩
          rw [← hR] at hK ⊢
          clear HRS hR
          generalize F x.1 = y at *
          obtain ⟨yp, yd, yt⟩ := y
          dsimp only at hK ⊢
          have HK : Hid _ := hK
          have HI : Hid _ := hi
          clear hK hi SQ HPK HN H s6 hn12
          refine Eq.mp (congrArg (fun t => Code.wpIn _ _ _ _ _ { tmps := t, defers := [] } W) (show (#[.slice a n c, .string p, undef, undef, .slice none 0 0, .int .i64 0, .int .i64 0, .int .i64 0, .pointer (some ⟨Bn, 0, none⟩), undef, undef, undef, undef, undef, .slice a n c, .string p, .slice (some ⟨w.heap.size, 0, none⟩) 1 1, .int .i64 0, .string p, .bool false, undef, undef, .int .i64 0, .bool false, undef, .slice a n c, .string p, .int .i64 0, .int .i64 0, .bool false, undef, .slice a n c, .string p, .func (.func 113) #[] #[.pointer (some ⟨v5.heap.size + 1, 0, none⟩), .pointer (some ⟨v5.heap.size, 0, none⟩)], .string R, .agg #[.string yp, .bool yd, .string yt], undef, undef, undef, undef, undef, undef, undef, undef, undef, undef, undef, undef, undef, undef, undef, undef] : Array Value) = _ from by simp)) ?_
          have SA : ∀ (ρ : Operand → Value) (o : Oper), (∀ c, o.op ≠ .defer c) → Oper.semAt (some l) ρ o = execOp ρ o := fun ρ o h => Oper.semAt_some l ρ o h
          gi_wp2
          have HS6 : v6.heap.size ≤ W.heap.size := by obtain ⟨⟨_, _, _, _, h⟩, _⟩ := HI.out; exact h
          refine HK.out _ _ ((KeepsOthers.alloc _ _).from _) (KpQ.alloc _ _ (fun g hg => Nat.lt_of_lt_of_le (HQ.out g hg).1 HS6)) ?_ ⟨W.heap.size, rfl, HS6, by simp⟩
          exact OwnFrom.alloc (OwnFrom.and (Own.from (nmI_own F (aheadT p) n Bn v6.heap.size) _) (ownFrom_below (Nat.le_refl _) B6.out.size)) _ HI.out
        case body =>
          rintro l pre x a' W hl hlp ⟨⟨na, nc, hBx, hE, hBs⟩, hBW⟩ ⟨g, rfl, hgv, hg1⟩ hlen
          have hR40 : (rsT F (aheadT p) x.1).size ≤ 40 := by have := (HPK.out x.1 x.2).1; unfold rsT; simp; omega
          have HNm : Hid (nms F (aheadT p) n (pre ++ [x]) = nms F (aheadT p) n pre ++ nmOf (rsT F (aheadT p) x.1, F x.1)) := nms_snoc _ _ _ _ _
          have hL : (nms F (aheadT p) n pre).length ≤ 12 := by have h1 := nms_le F (aheadT p) n pre; have h2 := blwN_le F (aheadT p) n n; omega
          have HI : Hid (∀ (W3 : World) (na : Option Addr) (nc : Nat) (L' : List ByteArray), nms F (aheadT p) n (pre ++ [x]) = L' → Bx1 W3 Bn (.slice na L'.length nc) → EO W3 v6.heap.size 9 1 (.slice na L'.length nc) L'.length (pxF (nthT L')) → v6.heap.size ≤ W3.heap.size → NmI F (aheadT p) n Bn v6.heap.size (pre ++ [x]) W3) := fun W3 na nc L' e q1 q2 q3 => by
            subst e
            exact ⟨na, nc, q1, q2, q3⟩
          have CT : Hid (CallsIn (Fence.wide.inRound l) (3 - 1 - 1 - 1) Tryz.prog 91 #[.string (rsT F (aheadT p) x.1), .string ⟨#[47]⟩] W fun e w' => CutIs (rsT F (aheadT p) x.1) 0 e ∧ Below W.heap.size W w' ∧ w'.heap = W.heap) := CallsIn.inRound l (callsIn_wide.2 (cut_any _ _ (by omega)))
          dsimp only
          generalize rsT F (aheadT p) x.1 = R at *
          generalize nms F (aheadT p) n pre = L at *
          generalize F x.1 = y at *
          obtain ⟨yp, yd, yt⟩ := y
          dsimp only at *
          obtain ⟨k, hk⟩ : ∃ k, k = L.length := ⟨_, rfl⟩
          rw [← hk] at hBx hE hL
          have HKL : Hid (k = L.length) := hk
          clear hk
          have SA : ∀ (ρ : Operand → Value) (o : Oper), (∀ c, o.op ≠ .defer c) → Oper.semAt (some l) ρ o = execOp ρ o := fun ρ o h => Oper.semAt_some l ρ o h
          have HX : Hid (Bx1 W Bn (.slice na k nc)) := hBx
          have HE : Hid (EO W v6.heap.size 9 1 (.slice na k nc) k (pxF (nthT L))) := hE
          have HBS : Hid (v6.heap.size ≤ W.heap.size) := hBs
          have HBW : Hid (Below w.heap.size w W) := hBW
          have HG1 : Hid (W.cell? ⟨g, 1, none⟩ = some (.bool yd)) := hg1
          clear hBx hE hBs hBW hg1 hlp hlen HPK HN H s6
          gi_wp2_with fail
          refine ⟨trivial, (CallsIn.mono CT.out) ?_⟩
          rintro e W1 ⟨hcut, hb1, hh⟩
          have X1 : Hid (Bx1 W1 Bn (.slice na k nc)) := HX.out.ofBlock (by rw [hh])
          have E1 : Hid (EO W1 v6.heap.size 9 1 (.slice na k nc) k (pxF (nthT L))) := HE.out.keep (fun g e => by rw [hh])
          have gd := (World.cell?_of_block (w := W) (w' := W1) (a := ⟨g, 1, none⟩) (by rw [hh])).trans HG1.out
          have BS1 : Hid (v6.heap.size ≤ W1.heap.size) := by show _ ≤ _; rw [hh]; exact HBS.out
          have BW1 : Hid (Below w.heap.size w W1) := HBW.out.trans (hb1.mono HBW.out.size)
          have KF : Hid (KeepsFrom v6.heap.size W W1) := ⟨by rw [hh]; exact Nat.le_refl _, fun k o _ hk _ => by rw [hh]; exact hk⟩
          have KQ : Hid (KpQ (fun g => g = v5.heap.size ∨ g = v5.heap.size + 1 ∨ g < w.heap.size) W W1) := ⟨by rw [hh]; exact Nat.le_refl _, fun g _ => by rw [hh]⟩
          have HB6 : Hid (Bn < v6.heap.size) := by have h1 := (HQ.out v5.heap.size (.inl rfl)).1; have h2 := T6.out.2; show _ < _; omega
          clear hh hb1 HX HE HBS HBW HG1 CT N6 HS
          have xc := X1.out.1
          have xf := X1.out.2
          rcases hcut with ⟨hns, rfl⟩ | ⟨j, h1, h2, h3, h4, rfl⟩
          · rw [ByteArray.extract_zero_size]
            have HNS : Hid (nmOf (R, (⟨yp, yd, yt⟩ : Fi)) = [if yd then R ++ ⟨#[47]⟩ else R]) := by show _ = _; unfold nmOf; rw [if_pos hns]
            clear hns
            have rz : R.size + 1 ≤ 9223372036854775807 := by omega
            cases yd with
            | true =>
              obtain ⟨a', c', W', hr, hX2, hKF, hKQ, hX3, hE3, hS3, hB3⟩ := nm_more (R ++ ⟨#[47]⟩) X1.out E1.out HKL.out BS1.out HB6.out (by omega) HQ.out T6.out.1 BW1.out
              have y0 := hX2.1
              have y1 := hX2.2
              have HF : Hid (NmI F (aheadT p) n Bn v6.heap.size (pre ++ [x]) (W'.setCell ⟨Bn, 0, none⟩ (.slice a' (k + 1) c'))) := HI.out _ a' c' (L ++ [R ++ ⟨#[47]⟩]) (by rw [HNm.out, HNS.out]; rfl) (by rw [List.length_append, ← HKL.out]; exact hX3) (by rw [List.length_append, ← HKL.out]; exact hE3) hS3
              have HZ : Hid (KeepsFrom v6.heap.size W (W'.setCell ⟨Bn, 0, none⟩ (.slice a' (k + 1) c')) ∧ KpQ (fun g => g = v5.heap.size ∨ g = v5.heap.size + 1 ∨ g < w.heap.size) W (W'.setCell ⟨Bn, 0, none⟩ (.slice a' (k + 1) c')) ∧ NmI F (aheadT p) n Bn v6.heap.size (pre ++ [x]) (W'.setCell ⟨Bn, 0, none⟩ (.slice a' (k + 1) c')) ∧ Below w.heap.size w (W'.setCell ⟨Bn, 0, none⟩ (.slice a' (k + 1) c'))) := ⟨KF.out.trans hKF, KQ.out.tr hKQ, HF.out, hB3⟩
              clear hX2 hKF hKQ hX3 hE3 hS3 hB3 HF HI HNm HNS E1 X1 HKL
              gi_wp2_with (gi_at_builtin; refine wpListIn_append_run _ rfl (.tmp 47) (.tmp 49) 73 rfl _ _ _ _ rfl rfl hr ?_)
              gi_wp2
              exact HZ.out
            | false =>
              obtain ⟨a', c', W', hr, hX2, hKF, hKQ, hX3, hE3, hS3, hB3⟩ := nm_more R X1.out E1.out HKL.out BS1.out HB6.out (by omega) HQ.out T6.out.1 BW1.out
              have y0 := hX2.1
              have y1 := hX2.2
              have HF : Hid (NmI F (aheadT p) n Bn v6.heap.size (pre ++ [x]) (W'.setCell ⟨Bn, 0, none⟩ (.slice a' (k + 1) c'))) := HI.out _ a' c' (L ++ [R]) (by rw [HNm.out, HNS.out]; rfl) (by rw [List.length_append, ← HKL.out]; exact hX3) (by rw [List.length_append, ← HKL.out]; exact hE3) hS3
              have HZ : Hid (KeepsFrom v6.heap.size W (W'.setCell ⟨Bn, 0, none⟩ (.slice a' (k + 1) c')) ∧ KpQ (fun g => g = v5.heap.size ∨ g = v5.heap.size + 1 ∨ g < w.heap.size) W (W'.setCell ⟨Bn, 0, none⟩ (.slice a' (k + 1) c')) ∧ NmI F (aheadT p) n Bn v6.heap.size (pre ++ [x]) (W'.setCell ⟨Bn, 0, none⟩ (.slice a' (k + 1) c')) ∧ Below w.heap.size w (W'.setCell ⟨Bn, 0, none⟩ (.slice a' (k + 1) c'))) := ⟨KF.out.trans hKF, KQ.out.tr hKQ, HF.out, hB3⟩
              clear hX2 hKF hKQ hX3 hE3 hS3 hB3 HF HI HNm HNS E1 X1 HKL
              gi_wp2_with (gi_at_builtin; refine wpListIn_append_run _ rfl (.tmp 47) (.tmp 49) 73 rfl _ _ _ _ rfl rfl hr ?_)
              gi_wp2
              exact HZ.out
          · have HZ : Hid (KeepsFrom v6.heap.size W W1 ∧ KpQ (fun g => g = v5.heap.size ∨ g = v5.heap.size + 1 ∨ g < w.heap.size) W W1 ∧ NmI F (aheadT p) n Bn v6.heap.size (pre ++ [x]) W1 ∧ Below w.heap.size w W1) := ⟨KF.out, KQ.out, HI.out W1 na nc L (by rw [HNm.out]; unfold nmOf; rw [if_neg (fun q => q j h1 h2 h3), List.append_nil]) (by rw [← HKL.out]; exact X1.out) (by rw [← HKL.out]; exact E1.out) BS1.out, BW1.out⟩
            clear HI HNm E1 X1 HKL h1 h3 h4
            gi_wp2
            exact HZ.out
        case done =>
          rintro D xs W hD hxs ⟨⟨na, nc, hBx, hE, hBs⟩, hBW⟩ hK
          subst hxs
          rw [nms_blw F (p : ByteArray) n n (Nat.le_refl _) HPK.out] at hBx hE
          have HE : Hid (EO W v6.heap.size 9 1 (.slice na (lsL F (p : ByteArray) n).length nc) (lsL F (p : ByteArray) n).length (pxF (nthT (lsL F (p : ByteArray) n)))) := hE
          have HBW : Hid (Below w.heap.size w W) := hBW
          have HK : Hid (W.heap[D]? = some (.deferred (some []))) := hK
          generalize lsL F (p : ByteArray) n = L at *
          have xc := hBx.1
          clear hBx hE hBW hK HPK HN H s6 SQ
          gi_wp2
          refine ⟨by simp, .inl ⟨_, _, rfl, run_takeDeferred HK.out, ?_⟩⟩
          have E3 := eo_own (β := Unit) _ _ _ _ _ _ () _ _ (some D) HE.out (grownBy_putObj' _ D (.deferred none)) (fun r e => by cases e; exact ⟨_, HK.out, rfl⟩)
          exact ⟨.tuple #[.slice na L.length nc, .int .i64 0], by simp [results, Tryz.f58, go_sem], ⟨L, 0, HM.out, ⟨na, nc, rfl, E3.mono (by have := B6.out.size; omega)⟩⟩, HBW.out.trans (belowK_b (w := w) (Nat.le_refl _) W D _ _ (by have := B6.out.size; omega) HK.out rfl rfl)⟩
        case stop =>
          rintro D cc pre W hD hpre h hK
          exact h.elim
      · have zb : (z != 0) = true := by simpa using h1
        have HM : Hid (LsIs n F p [] z) := .inr ⟨HZ.out, .inr ⟨HY.out, .inl ⟨HD.out, h1, rfl⟩⟩⟩
        clear HY HD h1
        gi_wp2
        exact ⟨.tuple #[.slice none 0 0, .int .i64 z], by simp [results, Tryz.f58, go_sem], ⟨[], z, HM.out, ⟨none, 0, rfl, EO.nil _ _ _ _ _⟩⟩, B4.out⟩
    · have yb : (x != 0) = true := by simpa using h0
      have HM : Hid (LsIs n F p [] x) := .inr ⟨HZ.out, .inl ⟨HY.out, h0, rfl⟩⟩
      clear HY h0
      gi_wp2
      exact ⟨.tuple #[.slice none 0 0, .int .i64 x], by simp [results, Tryz.f58, go_sem], ⟨[], x, HM.out, ⟨none, 0, rfl, EO.nil _ _ _ _ _⟩⟩, B2.out⟩
end Go.Proofs.YtgcdoabcopihlaaGreat

/-
  A call on files, in the program: FileCall.on at every kind.
-/
namespace Go.Proofs.YtgcdoabcopihlaaGreat
open Go.ChangeShapes Go.WideShapes Go.ChangeAt Go.RowKit
set_option linter.unusedVariables false
theorem cf_ls {n : Nat} {F : Nat → Fi} {x : Fcl} {L : List ByteArray} {c : Int} (hF : FsOk n F) (hp : x.p.size ≤ 65536) (e : x.k = 7) (h : LsIs n F x.p L c) : (c = 0 → CfP n F x n F (joinT L L.length) 0) ∧ (c ≠ 0 → CfP n F x n F ⟨#[]⟩ c) := by
  have h0 : c ≠ 0 → L = [] := fun hc => by
    rcases h with ⟨_, ⟨_, _, q⟩ | ⟨_, q, _⟩⟩ | ⟨_, ⟨_, _, q⟩ | ⟨_, ⟨_, _, q⟩ | ⟨_, q, _⟩⟩⟩
    · exact q
    · exact absurd q hc
    · exact q
    · exact q
    · exact absurd q hc
  by_cases q : PthBad x
  · have hz : ¬ PathOk x.p ∧ ¬ x.p.size = 0 := by
      rcases q with ⟨q1, q2⟩ | ⟨q1, _⟩
      · exact ⟨q1, fun z => q2 ⟨e, z⟩⟩
      · omega
    have h16 : c = 16 := by
      rcases h with ⟨q1, _⟩ | ⟨_, ⟨h1, h2, _⟩ | ⟨h1, _⟩⟩
      · exact absurd (show x.p.size = 0 by rw [q1]) hz.2
      · rcases ft1 hF hp h1 with ⟨z, _⟩ | ⟨_, z⟩
        · exact absurd z hz.1
        · exact z
      · exact absurd (h1.ok.2.1 0 (by omega)) hz.1
    exact ⟨fun e0 => by omega, fun _ => .inr ⟨by omega, .inl ⟨q, h16, rfl, rfl, rfl⟩⟩⟩
  · refine ⟨fun e0 => ?_, fun hc => ?_⟩
    · subst e0
      exact .inr ⟨by omega, .inr ⟨q, .inr (.inr (.inr (.inr (.inr (.inr ⟨e, rfl, rfl, L, h, rfl⟩)))))⟩⟩
    · obtain rfl := h0 hc
      exact .inr ⟨by omega, .inr ⟨q, .inr (.inr (.inr (.inr (.inr (.inr ⟨e, rfl, rfl, [], h, rfl⟩)))))⟩⟩
set_option maxRecDepth 100000 in
set_option maxHeartbeats 8000000 in
theorem on_all (a : Option Addr) (n c : Nat) (F : Nat → Fi) (x : Fcl) (hF : FsOk n F) (hp : x.p.size ≤ 65536) (ho : x.o.size ≤ 65536) (hd : x.d.size ≤ 65536) (hsl : SlP a n c) (w : World) (h : Els w 3 a n (fiF F)) :
    Calls Tryz.prog 26 #[.agg #[.int .i64 x.k, .int .i64 x.a, .int .i64 x.n, .string x.p, .string x.o, .string x.d], .slice a n c] w fun e w' => RetOn n F x a c w.heap.size e w' ∧ Below w.heap.size w w' := by
  by_cases h7 : x.k = 7
  · obtain ⟨xk, xa, xn, xp, xo, xd⟩ := x
    dsimp only at *
    subst h7
    have hn12 : n ≤ 12 := hF.1
    have HF : Hid (FsOk n F) := hF
    have HS : Hid (SlP a n c) := hsl
    have HSZ : Hid (∀ i, i < n → (F i).p.size ≤ 1048576) := fun i hi => by have := (hF.2 i hi).1.1.1; omega
    have W1 : Below w.heap.size w (w.alloc (.cells #[.int .i64 7, .int .i64 xa, .int .i64 xn, .string xp, .string xo, .string xd] 26)) := (Below.refl _ _).alloc (Nat.le_refl _) _
    have A1 : Hid (Below w.heap.size w (w.alloc (.cells #[.int .i64 7, .int .i64 xa, .int .i64 xn, .string xp, .string xo, .string xd] 26))) := W1
    have H : Hid (Els (w.alloc (.cells #[.int .i64 7, .int .i64 xa, .int .i64 xn, .string xp, .string xo, .string xd] 26)) 3 a n (fiF F)) := h.below W1
    clear h hF hsl W1
    go_enter Tryz.func26, Tryz.ntmps26
    go_wp2_with fail
    refine (implLs_any a n c F xp HSZ.out (by omega) HS.out (by omega) (w.alloc (.cells #[.int .i64 7, .int .i64 xa, .int .i64 xn, .string xp, .string xo, .string xd] 26)) H.out).mono ?_
    rintro e w1 ⟨⟨L, cd, hL, o1, c1, rfl, hE⟩, hb⟩
    have CF := cf_ls (x := ⟨7, xa, xn, xp, xo, xd⟩) HF.out hp rfl hL
    have B1 : Hid (Below w.heap.size w w1) := A1.out.trans (hb.mono A1.out.size)
    have JS : Hid (Calls Tryz.prog 59 #[.slice o1 L.length c1, .string ⟨#[32]⟩] w1 fun e w' => e = .returned (.string (joinT L L.length)) ∧ Below w1.heap.size w1 w') := joinS_any o1 c1 L (fun i => hL.short HF.out i) (by have := hL.len; omega) hE.slp.le w1 hE.els (fun y e => by subst e; exact (hE.ge y.block rfl).2)
    clear hL hE hb H A1
    by_cases hc : cd = 0
    · have HC : Hid (CfP n F ⟨7, xa, xn, xp, xo, xd⟩ n F (joinT L L.length) 0) := CF.1 hc
      subst hc
      clear CF
      generalize joinT L L.length = T at *
      generalize L.length = N at *
      go_wp2_with fail
      refine (endUnless_ok w1).mono ?_
      rintro e _ ⟨rfl, rfl⟩
      go_wp2_with fail
      refine (Calls.mono JS.out) ?_
      rintro e w2 ⟨rfl, hb2⟩
      have B2 : Hid (Below w.heap.size w w2) := B1.out.trans (hb2.mono B1.out.size)
      clear hb2 JS
      go_wp2
      go_ret2
      exact ⟨.inl ⟨a, n, c, F, T, rfl, .inr ⟨rfl, rfl, rfl, rfl⟩, HC.out⟩, B2.out⟩
    · have HC : Hid (CfP n F ⟨7, xa, xn, xp, xo, xd⟩ n F ⟨#[]⟩ cd) := CF.2 hc
      have HCD : Hid (cd ≠ 0) := hc
      clear hc CF JS
      go_wp2_with fail
      refine (endUnless_no cd HCD.out w1).mono ?_
      rintro e _ ⟨rfl, rfl⟩
      unfold endP
      go_wp2
      exact ⟨rfl, .inr ⟨cd, HCD.out, rfl, HC.out⟩, B1.out⟩
  · exact on_any a n c F x hF hp ho hd h7 hsl w h
end Go.Proofs.YtgcdoabcopihlaaGreat
