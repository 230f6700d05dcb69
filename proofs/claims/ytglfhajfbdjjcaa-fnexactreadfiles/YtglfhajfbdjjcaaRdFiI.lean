/-
  ReadFiles of the program.
-/
import Derived.Test.YtglfhajfbdjjcaaRdFiM
import Derived.Test.YtglfhajfbdjjcaaRowFi
import Derived.Test.YtglfhajfbdjjcaaFileMk
namespace Go.Proofs.Ytglfhajfbdjjcaa
open Go.ChangeShapes Go.WideShapes Go.ChangeAt Go.RowKit
set_option linter.unusedVariables false
theorem convAny {w : World} {a : Option Addr} {n c : Nat} {f : Nat → Nat} (h : Code8 w a n f) : (convert 30 9 (.slice a n c)).run Try.prog w = .ok (.string (kstr f 0 n)) w := by
  rcases Nat.eq_zero_or_pos n with rfl | h0
  · exact convNone a c w
  · obtain ⟨b, o, rfl, _⟩ := h.opened h0
    exact kstr_of_code h
set_option maxRecDepth 100000 in
theorem bytesEq_any (a1 a2 : Option Addr) (n1 c1 n2 c2 : Nat) (f1 f2 : Nat → Nat) (w : World) (h1 : Code8 w a1 n1 f1) (h2 : Code8 w a2 n2 f2) :
    Calls Try.prog 59 #[.slice a1 n1 c1, .slice a2 n2 c2] w fun e w' => Says e (kstr f1 0 n1 = kstr f2 0 n2) ∧ w = w' := by
  have k1 := convAny (c := c1) h1
  have k2 := convAny (c := c2) h2
  clear h1 h2
  generalize kstr f1 0 n1 = s1 at *
  generalize kstr f2 0 n2 = s2 at *
  by_cases e : s1 = s2
  · subst e
    have r : (s1.toList == s1.toList) = true := by simp
    go_enter Try.func59, Try.ntmps59
    go_wp2
    go_ret
    exact ⟨⟨true, rfl, by simp⟩, rfl⟩
  · have r := textNe e
    have HE : Hid (¬ s1 = s2) := e
    clear e
    go_enter Try.func59, Try.ntmps59
    go_wp2
    go_ret
    exact ⟨⟨false, rfl, by simp [HE.out]⟩, rfl⟩
theorem strL_lt (s : ByteArray) : ∀ x ∈ strL s, x < 256 := fun x hx => by
  unfold strL at hx
  obtain ⟨b, _, rfl⟩ := List.mem_map.1 hx
  exact b.toNat_lt
theorem numP_lt (sz x : Nat) : ∀ k, ∀ y ∈ numP sz x k, y < 256 := fun k y hy => by
  unfold numP at hy
  obtain ⟨j, _, rfl⟩ := List.mem_map.1 hy
  exact Nat.mod_lt _ (by omega)
theorem filL_lt {n : Nat} {F : Nat → Fi} (h : FsOk n F) : ∀ x ∈ filL n F, x < 256 := by
  have h1 : ∀ k, k ≤ n → ∀ x ∈ flatF fiL F k, x < 256 := by
    intro k
    induction k with
    | zero => intro _ x hx; cases hx
    | succ k ih =>
      intro hk x hx
      rcases List.mem_append.1 hx with q | q
      · exact ih (by omega) x q
      · have ho := (h.2 k (by omega)).1
        unfold fiL at q
        simp only [List.mem_append, List.mem_singleton] at q
        rcases q with (((q | q) | q) | q) | q
        · have := ho.1.1; omega
        · exact strL_lt _ x q
        · rw [q]; unfold bitN; split <;> omega
        · exact numP_lt _ _ _ x q
        · exact strL_lt _ x q
  intro x hx
  unfold filL at hx
  rcases List.mem_append.1 hx with q | q
  · have := h.1; simp at q; omega
  · exact h1 n (Nat.le_refl _) x q
theorem kstr_list {L : List Nat} {N : Nat} {f : Nat → Nat} (hL : ∀ x ∈ L, x < 256) (hf : ∀ i, f i < 256) : kstr (fun i => L.getD i 0) 0 L.length = kstr f 0 N ↔ L = byL N f := by
  constructor
  · intro e
    have hz : L.length = N := by have := congrArg ByteArray.size e; rwa [kstr_size, kstr_size] at this
    subst hz
    refine List.ext_getElem (byL_length _ _).symm (fun i h1 h2 => ?_)
    have h3 : strB (kstr (fun i => L.getD i 0) 0 L.length) i = strB (kstr f 0 L.length) i := by rw [e]
    have h4 : L[i] < 256 := hL _ (List.getElem_mem _)
    rw [strB_kstr _ _ _ _ (by simp [h1, h4]) h1, strB_kstr _ _ _ _ (hf _) h1] at h3
    have h5 : (byL L.length f)[i]'(by rw [byL_length]; exact h1) = f i := by unfold byL; simp
    rw [h5]
    simpa [h1] using h3
  · intro e
    have hz : L.length = N := by rw [e, byL_length]
    subst hz
    refine kstr_congr (fun i hi => ?_)
    have : L[i] = f i := by
      have h5 : (byL L.length f)[i]'(by rw [byL_length]; exact hi) = f i := by unfold byL; simp
      rw [← h5]
      exact List.getElem_of_eq e hi
    simp [hi, this]
theorem code_of_RL {w : World} {B g c : Nat} {L : List Nat} (h : RL w B g c L) : Code8 w (some ⟨g, 0, none⟩) L.length (fun i => L.getD i 0) := fun i hi => ⟨g, 0, rfl, by
  rw [Nat.zero_add, h.cell i hi]
  simp [hi]⟩
theorem fi_more {w u : World} {q k lc N : Nat} {la : Option Addr} {G : Nat → Fi} {f : Nat → Nat} {p : Option Nat} (x : Fi) (E : EO u (q + 1) 33 3 (.slice la k lc) k (fiF G)) (R : Rdz u q q N f p) (B : Below w.heap.size w u) (hq : q < u.heap.size) (hw : w.heap.size ≤ q) (hk : k ≤ 1000) :
    ∃ la' lc' w', (∀ ty, (Builtin.append_ #[26, 26] ty #[.slice la k lc, .slice (some ⟨u.heap.size + 1, 0, none⟩) 1 1]).run Try.prog ((u.alloc (.cells #[.string x.p, .bool x.d, .string x.t] 33)).alloc (.cells #[.string x.p, .bool x.d, .string x.t] 33)) = .ok (.slice la' (k + 1) lc') w') ∧ EO w' (q + 1) 33 3 (.slice la' (k + 1) lc') (k + 1) (fiF (updE G k x)) ∧ Rdz w' q q N f p ∧ Below w.heap.size w w' ∧ q < w'.heap.size := by
  have hb2 : Below u.heap.size u ((u.alloc (.cells #[.string x.p, .bool x.d, .string x.t] 33)).alloc (.cells #[.string x.p, .bool x.d, .string x.t] 33)) := ((Below.refl u.heap.size u).alloc (Nat.le_refl _) _).alloc (by simp) _
  have XB : Box3 ((u.alloc (.cells #[.string x.p, .bool x.d, .string x.t] 33)).alloc (.cells #[.string x.p, .bool x.d, .string x.t] 33)) (u.heap.size + 1) 33 (.string x.p) (.bool x.d) (.string x.t) := Box3.madeAt (by simp) _ _ _ _
  obtain ⟨v', w', hr, hE, hg, hloc⟩ := appFi ((u.alloc (.cells #[.string x.p, .bool x.d, .string x.t] 33)).alloc (.cells #[.string x.p, .bool x.d, .string x.t] 33)) (q + 1) (.slice la k lc) k (u.heap.size + 1) G x (by simp; omega) (by omega) (E.below hb2) (fun j hj => by
    rcases (show j = 0 ∨ j = 1 ∨ j = 2 by omega) with rfl | rfl | rfl
    · exact XB.c0
    · exact XB.c1
    · exact XB.c2)
  obtain ⟨la', lc', rfl⟩ := hE.form
  have hge : ∀ g, (Value.slice la k lc).ownBlock = some g → q + 1 ≤ g := fun g e => (E.ge g e).1
  have hlow : ∀ g, g < q + 1 → w'.heap[g]? = u.heap[g]? := fun g hlt => (hg.block g (by simp; omega) (fun e => by have := hge g e.symm; omega)).trans (hb2.block g (by omega))
  have hsz := hg.size
  simp only [World.size_alloc] at hsz
  refine ⟨la', lc', w', hr, hE, R.keep (hlow q (by omega)) (fun b hb => hlow b (by omega)), ?_, by omega⟩
  exact (B.trans (hb2.mono B.size)).grown hg (by have := B.size; simp; omega) (fun g e => by have := hge g e; omega)
set_option maxRecDepth 100000 in
set_option maxHeartbeats 8000000 in
theorem implRf_any (a : Option Addr) (N c : Nat) (f : Nat → Nat) (hf : ∀ i, f i < 256) (hN : N ≤ 1048576) (hc : N ≤ c) (w : World) (h : Code8 w a N f) :
    Calls Try.prog 23 #[.slice a N c] w fun e w' => (∃ m G cd, RfIs N f m G cd ∧ RetFs m G cd w.heap.size e w') ∧ Below w.heap.size w w' := by
  by_cases hL : 65536 < N
  · have g0 : (65536 : Int) < (N : Int) := by omega
    have HX : Hid (RfIs N f 0 (fiR f) 2) := .inl ⟨hL, rfl, rfl⟩
    clear h hL hc
    go_enter Try.func23, Try.ntmps23
    go_wp2
    go_ret2
    exact ⟨⟨_, _, _, HX.out, retFs_nil _ _ _ _⟩, Below.refl _ _⟩
  · have g0 : ¬ (65536 : Int) < (N : Int) := by omega
    obtain ⟨q, hq⟩ : ∃ q, q = w.heap.size := ⟨_, rfl⟩
    obtain ⟨v1, hv1⟩ : ∃ v, v = w.alloc (.cells #[.slice a N c, .bool false] 86) := ⟨_, rfl⟩
    have A1 : Hid (Below w.heap.size w v1) := by show Below _ _ _; rw [hv1]; exact (Below.refl _ _).alloc (Nat.le_refl _) _
    have R1 : Hid (Rdz v1 q q N f (some 0)) := by
      refine ⟨by omega, a, c, by omega, ?_, ?_, ?_, fun e => absurd e (by omega)⟩
      · rw [hv1, hq]; exact Box2.made _ _ _ _
      · have := h.below A1.out; exact this.congr (fun i hi => by rw [Nat.zero_add])
      · rw [hq]; exact fun x h0 hx => h.lt x (by omega) hx
    have HC : Hid (Code8 w a N f) := h
    have HV : Hid (w.alloc (.cells #[.slice a N c, .bool false] 86) = v1) := hv1.symm
    have QL : Hid (q < v1.heap.size) := by show _ < _; rw [hv1, hq]; simp
    have HQ : Hid (q = w.heap.size) := hq
    have NU : Hid (∀ (k : Nat) (u : World) (p : Option Nat), 0 < k → k ≤ 4 → Rdz u q q N f p → Calls Try.prog 56 #[.pointer (some ⟨q, 0, none⟩), .int .i64 (k : Int)] u fun e w' => (∃ (x : Nat) (p' : Option Nat), e = .returned (.int .i64 (x : Int)) ∧ Rdz w' q q N f p' ∧ Nxt N k p p' (fun P => x = valN (fun i => f (P + i)) k) ∧ x < 256 ^ k) ∧ OnlyB q u w') := fun k u p h0 h4 hr => numberZ_any q q N k (Nat.le_refl _) f hf h0 h4 hN p u hr
    have TX : Hid (∀ (k : Nat) (u : World) (p : Option Nat), k ≤ 100000 → (∀ P, p = some P → 0 < P) → Rdz u q q N f p → Calls Try.prog 57 #[.pointer (some ⟨q, 0, none⟩), .int .i64 (k : Int)] u fun e w' => (∃ (x : ByteArray) (p' : Option Nat), e = .returned (.string x) ∧ Rdz w' q q N f p' ∧ Nxt N k p p' (fun P => x = kstr f P k) ∧ x.size = k) ∧ OnlyB q u w') := fun k u p hk hp hr => textZ_all q q N k (Nat.le_refl _) f hk hN p hp u hr
    have N0 : Hid (Calls Try.prog 56 #[.pointer (some ⟨q, 0, none⟩), .int .i64 1] v1 fun e w' => (∃ (m : Nat) (p' : Option Nat), e = .returned (.int .i64 (m : Int)) ∧ Rdz w' q q N f p' ∧ SoFar N f 0 (fiR f) p' ∧ m < 256 ∧ (0 < N → m = f 0) ∧ (N = 0 → m = 0)) ∧ OnlyB q v1 w') := by
      rcases Nat.eq_zero_or_pos N with hz | hz
      · refine (numberZ_no q q N 1 f (by omega) v1 (fewZ_some (by omega) R1.out)).mono fun e w' z => ⟨⟨0, none, z.1, z.2.1, .inr ⟨rfl, ?_, ?_⟩, by omega, fun h => by omega, fun _ => rfl⟩, z.2.2⟩
        · show N < 1 + 0; omega
        · show N < 1; omega
      · refine (numberZ_yes q q N 1 0 (Nat.le_refl _) f hf (by omega) (by omega) hN (by omega) v1 R1.out).mono fun e w' z => ⟨⟨f 0, some 1, ?_, z.2.1, .inl ⟨rfl, by show 1 ≤ N; omega, fun i hi => absurd hi (by omega)⟩, hf 0, fun _ => rfl, fun h => by omega⟩, z.2.2⟩
        rw [z.1, valN1]
    have NU1 : Hid (∀ (u : World) (p : Option Nat), Rdz u q q N f p → Calls Try.prog 56 #[.pointer (some ⟨q, 0, none⟩), .int .i64 1] u fun e w' => (∃ (x : Nat) (p' : Option Nat), e = .returned (.int .i64 (x : Int)) ∧ Rdz w' q q N f p' ∧ Nxt N 1 p p' (fun P => x = valN (fun i => f (P + i)) 1) ∧ x < 256) ∧ OnlyB q u w') := fun u p hr => NU.out 1 u p (by omega) (by omega) hr
    have NU2 : Hid (∀ (u : World) (p : Option Nat), Rdz u q q N f p → Calls Try.prog 56 #[.pointer (some ⟨q, 0, none⟩), .int .i64 2] u fun e w' => (∃ (x : Nat) (p' : Option Nat), e = .returned (.int .i64 (x : Int)) ∧ Rdz w' q q N f p' ∧ Nxt N 2 p p' (fun P => x = valN (fun i => f (P + i)) 2) ∧ x < 65536) ∧ OnlyB q u w') := fun u p hr => NU.out 2 u p (by omega) (by omega) hr
    clear NU
    have NB : Hid (N ≤ 65536) := by show _ ≤ _; omega
    have BA : Hid (∀ (la : Option Addr) (m lc : Nat) (G : Nat → Fi) (u : World), m ≤ 1048576 → (∀ i, i < m → (G i).p.size ≤ 255 ∧ (G i).t.size ≤ 65535) → EO u (q + 1) 33 3 (.slice la m lc) m (fiF G) → Calls Try.prog 58 #[.slice la m lc] u fun e w' => (∃ L cd, ByIs m G L cd ∧ RetBy L cd u.heap.size e w') ∧ Below u.heap.size u w') := fun la m lc G u hm hz hE => implBy_any la m lc G (fun i hi => by have := (hz i hi).1; omega) hm hE.slp u hE.els
    have HF : Hid (∀ i, f i < 256) := hf
    clear hf h hv1 hq hc hL R1
    go_enter Try.func23, Try.ntmps23
    go_upto_region 5 with fail
    rw [HV.out, ← HQ.out]
    clear HV
    go_wp2_with fail
    refine (Calls.mono N0.out) ?_
    rintro e v2 ⟨⟨m, p, rfl, hr, hsf, hm, hm1, hm0⟩, ho⟩
    have R2 : Hid (Rdz v2 q q N f p) := hr
    have S2 : Hid (SoFar N f 0 (fiR f) p) := hsf
    have B2 : Hid (Below w.heap.size w v2) := A1.out.trans (ho.toBelow (by rw [HQ.out]; exact Nat.le_refl _) A1.out.size)
    have HM : Hid ((0 < N → m = f 0) ∧ (N = 0 → m = 0)) := ⟨hm1, hm0⟩
    have Q2 : Hid (q < v2.heap.size) := Nat.lt_of_lt_of_le QL.out ho.size
    clear hr hsf hm1 hm0 ho N0 A1 QL
    go_wp2
    go_loopw [5, 15] (fun s i wr => ∃ (k : Nat) (la : Option Addr) (lc : Nat) (G : Nat → Fi) (p : Option Nat), k ≤ m ∧ i = .int .i64 k ∧ s = .slice la k lc ∧ EO wr (q + 1) 33 3 (.slice la k lc) k (fiF G) ∧ Rdz wr q q N f p ∧ SoFar N f k G p ∧ (∀ i, i < k → (G i).p.size ≤ 255 ∧ (G i).t.size ≤ 65535) ∧ Below w.heap.size w wr ∧ q < wr.heap.size) (fun _ i _ => m - (intOf i).toNat)
    case atStart => exact ⟨0, none, 0, fiR f, p, by omega, rfl, rfl, EO.nil _ _ _ _ _, R2.out, S2.out, fun i hi => absurd hi (by omega), B2.out, Q2.out⟩
    case round =>
      clear R2 S2 B2 Q2 p
      obtain ⟨k, la, lc, G, p, hk, rfl, rfl, hE, hR, hS, hZ, hB, hQS⟩ := hrel
      have E : Hid (EO wr (q + 1) 33 3 (.slice la k lc) k (fiF G)) := hE
      have R : Hid (Rdz wr q q N f p) := hR
      have S : Hid (SoFar N f k G p) := hS
      have Z : Hid (∀ i, i < k → (G i).p.size ≤ 255 ∧ (G i).t.size ≤ 65535) := hZ
      have B : Hid (Below w.heap.size w wr) := hB
      have QS : Hid (q < wr.heap.size) := hQS
      clear hE hR hS hZ hB hQS
      by_cases hlt : k < m
      · have hlt' : (k : Int) < (m : Int) := by omega
        clear BA
        obtain ⟨s, hs0, hsi, hsn, hsp⟩ := S.out.inv
        have HS0 : Hid (0 < s) := hs0
        have HSI : Hid (InvR N p s) := hsi
        have HSN : Hid ((p = none → s = 1 + (flatF fiL G k).length) ∧ (p ≠ none → s = stR f k ∧ ∀ i, i < k → G i = fiR f i)) := ⟨hsn, hsp⟩
        clear hs0 hsi hsn hsp
        go_wp2_with fail
        refine (NU1.out _ _ R.out).mono ?_
        rintro e u1 ⟨⟨x1, p1, rfl, hr, hn, hx1⟩, ho⟩
        replace R : Hid (Rdz u1 q q N f p1) := hr
        have M1 : Hid (Nxt N 1 p p1 (fun P => x1 = valN (fun i => f (P + i)) 1)) := hn
        replace E : Hid (EO u1 (q + 1) 33 3 (.slice la k lc) k (fiF G)) := E.out.onlyB ho (by omega)
        replace B : Hid (Below w.heap.size w u1) := B.out.trans (ho.toBelow (by rw [HQ.out]; exact Nat.le_refl _) B.out.size)
        replace QS : Hid (q < u1.heap.size) := Nat.lt_of_lt_of_le QS.out ho.size
        clear hr hn ho
        have I1 : Hid (InvR N p1 (s + 1)) := (HSI.out.next M1.out).1
        go_wp2_with fail
        refine (TX.out x1 _ _ (by omega) (fun P e => I1.out.pos (by omega) P e) R.out).mono ?_
        rintro e u2 ⟨⟨t1, p2, rfl, hr, hn, ht1⟩, ho⟩
        replace R : Hid (Rdz u2 q q N f p2) := hr
        have M2 : Hid (Nxt N x1 p1 p2 (fun P => t1 = kstr f P x1)) := hn
        replace E : Hid (EO u2 (q + 1) 33 3 (.slice la k lc) k (fiF G)) := E.out.onlyB ho (by omega)
        replace B : Hid (Below w.heap.size w u2) := B.out.trans (ho.toBelow (by rw [HQ.out]; exact Nat.le_refl _) B.out.size)
        replace QS : Hid (q < u2.heap.size) := Nat.lt_of_lt_of_le QS.out ho.size
        clear hr hn ho
        go_wp2_with fail
        refine (NU1.out _ _ R.out).mono ?_
        rintro e u3 ⟨⟨x2, p3, rfl, hr, hn, hx2⟩, ho⟩
        replace R : Hid (Rdz u3 q q N f p3) := hr
        have M3 : Hid (Nxt N 1 p2 p3 (fun P => x2 = valN (fun i => f (P + i)) 1)) := hn
        replace E : Hid (EO u3 (q + 1) 33 3 (.slice la k lc) k (fiF G)) := E.out.onlyB ho (by omega)
        replace B : Hid (Below w.heap.size w u3) := B.out.trans (ho.toBelow (by rw [HQ.out]; exact Nat.le_refl _) B.out.size)
        replace QS : Hid (q < u3.heap.size) := Nat.lt_of_lt_of_le QS.out ho.size
        clear hr hn ho
        go_wp2_with fail
        refine (NU2.out _ _ R.out).mono ?_
        rintro e u4 ⟨⟨x3, p4, rfl, hr, hn, hx3⟩, ho⟩
        replace R : Hid (Rdz u4 q q N f p4) := hr
        have M4 : Hid (Nxt N 2 p3 p4 (fun P => x3 = valN (fun i => f (P + i)) 2)) := hn
        replace E : Hid (EO u4 (q + 1) 33 3 (.slice la k lc) k (fiF G)) := E.out.onlyB ho (by omega)
        replace B : Hid (Below w.heap.size w u4) := B.out.trans (ho.toBelow (by rw [HQ.out]; exact Nat.le_refl _) B.out.size)
        replace QS : Hid (q < u4.heap.size) := Nat.lt_of_lt_of_le QS.out ho.size
        clear hr hn ho
        have I4 : Hid (InvR N p4 (s + 1 + x1 + 1 + 2)) := ((((I1.out.next M2.out).1.next M3.out).1).next M4.out).1
        go_wp2_with fail
        refine (TX.out x3 _ _ (by omega) (fun P e => I4.out.pos (by omega) P e) R.out).mono ?_
        rintro e u5 ⟨⟨t2, p5, rfl, hr, hn, ht2⟩, ho⟩
        replace R : Hid (Rdz u5 q q N f p5) := hr
        have M5 : Hid (Nxt N x3 p4 p5 (fun P => t2 = kstr f P x3)) := hn
        replace E : Hid (EO u5 (q + 1) 33 3 (.slice la k lc) k (fiF G)) := E.out.onlyB ho (by omega)
        replace B : Hid (Below w.heap.size w u5) := B.out.trans (ho.toBelow (by rw [HQ.out]; exact Nat.le_refl _) B.out.size)
        replace QS : Hid (q < u5.heap.size) := Nat.lt_of_lt_of_le QS.out ho.size
        clear hr hn ho
        have HT : Hid (t1.size = x1 ∧ t2.size = x3) := ⟨ht1, ht2⟩
        have hd : decide ((x2 : Int) = 1) = decide (x2 = 1) := by congr 1; exact propext ⟨fun h => by omega, fun h => by omega⟩
        have hd' : ((x2 : Int) == 1) = decide (x2 = 1) := by rw [← hd]; rfl
        clear ht1 ht2 I1 I4 NU1 NU2 TX hd
        obtain ⟨la', lc', w', hr, hE, hR, hB, hQ'⟩ := fi_more (⟨t1, decide (x2 = 1), t2⟩ : Fi) E.out R.out B.out QS.out (by rw [HQ.out]; exact Nat.le_refl _) (by omega)
        have E5 : Hid (EO w' (q + 1) 33 3 (.slice la' (k + 1) lc') (k + 1) (fiF (updE G k (⟨t1, decide (x2 = 1), t2⟩ : Fi)))) := hE
        have R5 : Hid (Rdz w' q q N f p5) := hR
        have B5 : Hid (Below w.heap.size w w') := hB
        have Q5 : Hid (q < w'.heap.size) := hQ'
        have S5 : Hid (SoFar N f (k + 1) (updE G k (⟨t1, decide (x2 = 1), t2⟩ : Fi)) p5) := by
          obtain ⟨h1, h2⟩ := file_next HSI.out M1.out M2.out M3.out M4.out M5.out
          obtain ⟨z1, z2⟩ := HT.out
          refine S.out.step (x := ⟨t1, decide (x2 = 1), t2⟩) HSI.out (by show InvR N p5 (s + (4 + t1.size + t2.size)); rw [z1, z2]; exact h1) (fun hp => ?_) (fun hp => (HSN.out.2 hp).1) HSN.out.1 (fun i hi => updE_ne _ _ (by omega)) (updE_eq _ _ _) (fun e hN => ?_)
          · show _ ∧ s + (4 + t1.size + t2.size) = _
            rw [z1, z2]
            exact h2 hp
          · have := M1.out
            rw [e] at this
            exact file_whole this M2.out M3.out M4.out M5.out hN
        have Z5 : Hid (∀ i, i < k + 1 → (updE G k (⟨t1, decide (x2 = 1), t2⟩ : Fi) i).p.size ≤ 255 ∧ (updE G k (⟨t1, decide (x2 = 1), t2⟩ : Fi) i).t.size ≤ 65535) := fun i hi => by
          obtain ⟨z1, z2⟩ := HT.out
          rcases Nat.lt_or_ge i k with hl | hl
          · rw [updE_ne _ _ (by omega)]; exact Z.out i hl
          · obtain rfl : i = k := by omega
            rw [updE_eq]
            show t1.size ≤ 255 ∧ t2.size ≤ 65535
            omega
        clear hE hR hB hQ' E R B QS S Z M1 M2 M3 M4 M5 HSI HSN HT HS0
        generalize decide (x2 = 1) = bd at *
        go_wp2_with (at_builtin; refine Lib.wpList_append_run _ rfl (.tmp 24) (.tmp 26) 26 26 rfl (.slice la k lc) (.slice (some ⟨u5.heap.size + 1, 0, none⟩) 1 1) rfl rfl _ _ (hr _) ?_)
        go_wp2
        go_roundw
        case rel => exact ⟨k + 1, la', lc', _, p5, by omega, by go_num, rfl, E5.out, R5.out, S5.out, Z5.out, B5.out, Q5.out⟩
        case measure => simp [intOf]; omega
      · obtain rfl : k = m := by omega
        have hlt' : ¬ (k : Int) < (k : Int) := by omega
        have BY : Hid (Calls Try.prog 58 #[.slice la k lc] wr fun e w' => (∃ L cd, ByIs k G L cd ∧ RetBy L cd wr.heap.size e w') ∧ Below wr.heap.size wr w') := BA.out la k lc G wr (by omega) Z.out E.out
        clear BA NU1 NU2 TX
        go_wp2_with fail
        refine (Calls.mono BY.out) ?_
        rintro e u1 ⟨⟨L, cd, hI, hRb⟩, hb⟩
        have E1 : Hid (EO u1 (q + 1) 33 3 (.slice la k lc) k (fiF G)) := E.out.below hb
        have B1 : Hid (Below w.heap.size w u1) := B.out.trans (hb.mono B.out.size)
        clear hb BY
        have BQ : Hid (w.heap.size ≤ q + 1) := by have := HQ.out; show _ ≤ _; omega
        have CW : Hid (Code8 u1 a N f) := HC.out.below B1.out
        rcases hI with ⟨h1, _, _⟩ | ⟨_, ⟨hno, rfl, rfl⟩ | ⟨hok, rfl, hL⟩⟩
        · omega
        · have HX : Hid (RfIs N f 0 (fiR f) 3) := by
            refine .inr ⟨by have := NB.out; omega, .inr ⟨?_, rfl, rfl⟩⟩
            rcases Nat.eq_zero_or_pos N with hz | hz
            · exact fun g => by have := g.1; omega
            · exact S.out.bad hz (HM.out.1 hz) (fun q => hno q.1)
          obtain ⟨ga, gc, rfl⟩ : ∃ ga gc, e = .returned (.tuple #[.slice ga 0 gc, .int .i64 1]) := by
            rcases hRb with ⟨_, ga, rfl⟩ | ⟨g, gc, rfl, _⟩
            · exact ⟨_, _, rfl⟩
            · exact ⟨_, _, rfl⟩
          clear hno hRb S HM E Z B R QS CW
          go_wp2
          go_ret2
          exact ⟨⟨_, _, _, HX.out, retFs_nil _ _ _ _⟩, B1.out⟩
        · obtain ⟨g, gc, rfl, hRL⟩ : ∃ g gc, e = .returned (.tuple #[.slice (some ⟨g, 0, none⟩) L.length gc, .int .i64 0]) ∧ RL u1 wr.heap.size g gc L := by
            rcases hRb with ⟨e0, _⟩ | h
            · rw [hL] at e0; unfold filL at e0; simp at e0
            · exact h
          have EQ : Hid (Calls Try.prog 59 #[.slice (some ⟨g, 0, none⟩) L.length gc, .slice a N c] u1 fun e w' => Says e (L = byL N f) ∧ u1 = w') := (bytesEq_any _ _ _ _ _ _ _ _ u1 (code_of_RL hRL) CW.out).mono fun e w' z => ⟨by
            obtain ⟨b, h1, h2⟩ := z.1
            exact ⟨b, h1, h2.trans (kstr_list (fun x hx => filL_lt hok x (by rw [← hL]; exact hx)) HF.out)⟩, z.2⟩
          have HOK : Hid (FsOk k G ∧ L = filL k G) := ⟨hok, hL⟩
          clear hRb hok hL hRL CW E R B QS Z HF
          go_wp2_with fail
          refine (Calls.mono EQ.out) ?_
          rintro e _ ⟨⟨b, rfl, hbi⟩, rfl⟩
          have HBI : Hid (b = true ↔ L = byL N f) := hbi
          clear hbi EQ
          cases b with
          | true =>
            have HX : Hid (RfIs N f k G 0) := by
              obtain ⟨h1, h2⟩ := HOK.out
              have h3 := HBI.out.1 rfl
              have hz : 0 < N := by
                have h4 := congrArg List.length h3
                rw [byL_length, h2] at h4
                unfold filL at h4
                rw [List.length_append] at h4
                simp at h4
                omega
              obtain ⟨h5, h6⟩ := (S.out.good hz (HM.out.1 hz)).1 ⟨h1, by rw [← h2]; exact h3⟩
              exact .inr ⟨by have := NB.out; omega, .inl ⟨h5, rfl, HM.out.1 hz, h6⟩⟩
            clear HBI HOK S HM
            go_wp2
            go_ret2
            exact ⟨⟨_, _, _, HX.out, ⟨_, _, rfl, E1.out.mono BQ.out⟩⟩, B1.out⟩
          | false =>
            have HX : Hid (RfIs N f 0 (fiR f) 3) := by
              refine .inr ⟨by have := NB.out; omega, .inr ⟨?_, rfl, rfl⟩⟩
              rcases Nat.eq_zero_or_pos N with hz | hz
              · exact fun g => by have := g.1; omega
              · refine S.out.bad hz (HM.out.1 hz) (fun q => ?_)
                have := HBI.out.2 (HOK.out.2.trans q.2)
                cases this
            clear HBI HOK S HM
            go_wp2
            go_ret2
            exact ⟨⟨_, _, _, HX.out, retFs_nil _ _ _ _⟩, B1.out⟩
end Go.Proofs.Ytglfhajfbdjjcaa
