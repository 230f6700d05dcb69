/-
  Rows of texts; ProveLeaf of the program (written by tools/mkprove.py).
-/
import Derived.Test.YtpljdlgjeeikkaaDoorSideI
import Derived.Test.YtpljdlgjeeikkaaDoorBlkSum
namespace Go.Proofs.YtpljdlgjeeikkaaDoor
open Go.ChangeShapes Go.WideShapes Go.ChangeAt Go.RowKit
set_option linter.unusedVariables false
def txV (s : ByteArray) (_ : Nat) : Value := .string s
/-- The cells of texts. -/
def txF (f : Nat → ByteArray) (i j : Nat) : Value := txV (f i) j
theorem infoTx : (Tryd.prog.info? 9).map (fun i => (i.zero, i.size, i.bytes)) = some (some (.string ⟨#[]⟩), 1, 16) := by kernel_rfl
set_option maxRecDepth 100000 in
theorem appTx (w : World) (B : Nat) (v : Value) (n q : Nat) (R : Nat → ByteArray) (x : ByteArray) (hB : B ≤ w.heap.size) (hn : n ≤ 100000) (h : EO w B 9 1 v n (txF R)) (hx : ∀ j, j < 1 → w.cell? ⟨q, 0 + j, none⟩ = some (txV x j)) :
    ∃ v' w', (∀ ty, (Builtin.append_ #[31, 31] ty #[v, .slice (some ⟨q, 0, none⟩) 1 1]).run Tryd.prog w = .ok v' w') ∧ EO w' B 9 1 v' (n + 1) (txF (updE R n x)) ∧ w.grownBy w' v.ownBlock ∧ (v'.ownBlock = v.ownBlock ∨ v'.ownBlock = some w.heap.size) := by
  obtain ⟨i, hi, hz, hsz, hby⟩ := info_parts infoTx
  obtain ⟨v', w', hr, ho, hg, _, hloc⟩ := run_append_own_at (P := Tryd.prog) w B 31 31 9 i _ 1 16 Tryd.underlying31 hi hz hsz hby rfl (by decide) v n _ h ⟨q, 0, none⟩ 1 1 ((List.range 1).map (txV x)) (by simp) (fun j u hj => by
    rw [Go.WideShapes.add_plain]
    rw [List.getElem?_map, Option.map_eq_some_iff] at hj
    obtain ⟨b, hb, rfl⟩ := hj
    obtain ⟨hj', rfl⟩ := List.getElem?_eq_some_iff.1 hb
    rw [List.getElem_range]
    exact hx j (by simpa using hj')) (fun u hu => by
      obtain ⟨j, hj, rfl⟩ := List.mem_map.1 hu
      have := List.mem_range.1 hj
      obtain rfl : j = 0 := by omega
      rfl) (by unfold maxLen; omega) (by omega) hB
  refine ⟨v', w', fun ty => hr, ?_, hg, hloc⟩
  unfold EO
  rw [elv_snoc, elv_congr (G := txF R) (fun i hi j hj => by unfold txF updE; rw [if_neg (by omega)])]
  have e : (List.range 1).map (txF (updE R n x) n) = (List.range 1).map (txV x) := by unfold txF updE; simp
  rw [e]
  exact ho

theorem EO.strs {w : World} {B : Nat} {a : Option Addr} {n c : Nat} {f : Nat → ByteArray} (h : EO w B 9 1 (.slice a n c) n (txF f)) : Strs w a n f := fun i hi => by
  obtain ⟨b, off, e, hc⟩ := h.els i hi
  exact ⟨b, off, e, by have := hc 0 (by omega); simpa [txF, txV] using this⟩
/-- Texts of one's own and a code are handed back. -/
def RetPf (L : List ByteArray) (cd : Int) (B : Nat) (e : Ending) (w : World) : Prop := ∃ a c, e = .returned (.tuple #[.slice a L.length c, .int .i64 cd]) ∧ EO w B 9 1 (.slice a L.length c) L.length (txF (entT L))
/-- What ProveLeaf answers. -/
def PfA (n : Nat) (LF : Nat → Lf) (k : Int) (L : List ByteArray) (cd : Int) : Prop :=
  (¬ LsOk n LF ∧ L = [] ∧ cd = lsCode n LF) ∨ (LsOk n LF ∧ ¬ (0 ≤ k ∧ k < (n : Int)) ∧ L = [] ∧ cd = 4) ∨ (LsOk n LF ∧ (0 ≤ k ∧ k < (n : Int)) ∧ L = pathT LF 0 n k.toNat ∧ cd = 0)
theorem pfA_ex (n : Nat) (LF : Nat → Lf) (k : Int) : ∃ L cd, PfA n LF k L cd ∧ L.length ≤ 32 ∧ ∀ i, i < L.length → (entT L i).size ≤ 32 := by
  by_cases h : LsOk n LF
  · by_cases h2 : 0 ≤ k ∧ k < (n : Int)
    · refine ⟨_, _, .inr (.inr ⟨h, h2, rfl, rfl⟩), by rw [pathT_length]; have := lenT_le (n := n) (k := k.toNat); have := h.1; omega, fun i hi => ?_⟩
      have e := side_path LF (p := 0) (q := n) (k := k.toNat) (n := n) (by omega) (by omega) (by omega)
      rw [Nat.sub_zero] at e
      rw [← e]
      unfold entT
      rw [List.getD_eq_getElem?_getD, List.getElem?_map]
      cases (sideT 0 n k.toNat)[i]? with
      | none => show (ByteArray.size _) ≤ 32; exact Nat.zero_le _
      | some s => show (treeT LF s.1 (s.2 - s.1)).size ≤ 32; rw [treeT_size]; omega
    · exact ⟨_, _, .inr (.inl ⟨h, h2, rfl, rfl⟩), Nat.zero_le _, fun i hi => absurd hi (Nat.not_lt_zero _)⟩
  · exact ⟨_, _, .inl ⟨h, rfl, rfl⟩, Nat.zero_le _, fun i hi => absurd hi (Nat.not_lt_zero _)⟩
theorem RetPf.nothing (cd : Int) (B : Nat) (w : World) : RetPf [] cd B (.returned (.tuple #[.slice none 0 0, .int .i64 cd])) w := ⟨none, 0, rfl, EO.nil _ _ _ _ _⟩
theorem run_cut_both {P : Program} (T : TypeId) (hu : P.underlying T = some (.slice (P.elem T))) (s : Nat) (hs : ∀ w, (sizeOf (P.elem T)).run P w = .ok s w) {b off n c : Nat} (p q : Nat) (h1 : p < q) (h2 : q ≤ n) (hc : n ≤ c) (w : World) :
    (Instr.slice T (.slice (some ⟨b, off, none⟩) n c) (some (.int .i64 (p : Int))) (some (.int .i64 (q : Int))) none).run P w = .ok (.slice (some ⟨b, off + p * s, none⟩) (q - p) (c - p)) w := by
  rw [run_slice_lh (P := P) (w := w) T (some ⟨b, off, none⟩) n c hu .i64 .i64 (p : Int) (q : Int) (by omega) (by omega) (by omega)]
  simp only [hs, Result.andThen, sliced, Int.toNat_natCast]
  rw [if_neg (by omega)]
  simp [Go.WideShapes.add_plain]
set_option maxRecDepth 100000 in
set_option maxHeartbeats 4000000 in
theorem implPf_any (a : Option Addr) (n c : Nat) (LF : Nat → Lf) (k : Int) (L : List ByteArray) (cd : Int) (hA : PfA n LF k L cd) (hn : n ≤ 1048576) (hc : n ≤ c) (hcm : c ≤ maxLen) (w : World) (h : Els w 2 a n (lfF LF)) (ht : Tabs w) :
    Calls Tryd.prog 9 #[.slice a n c, .int .i64 k] w fun e w' => RetPf L cd w.heap.size e w' ∧ Below w.heap.size w w' := by
  have LT : Hid (Calls Tryd.prog 21 #[.slice a n c] w fun e w' => e = .returned (.int .i64 (lsCode n LF)) ∧ Below w.heap.size w w') := leavesFault_any a n c LF hn w h
  rcases hA with ⟨hno, rfl, rfl⟩ | ⟨hok, hk, rfl, rfl⟩ | ⟨hok, hk, hL, rfl⟩
  · have ne : (lsCode n LF != 0) = true := by
      rcases lsCode_cases n LF with ⟨q, _⟩ | ⟨_, q | q, _⟩
      · exact absurd q hno
      · rw [q]; rfl
      · rw [q]; rfl
    have HR : Hid (∀ w', RetPf [] (lsCode n LF) w.heap.size (.returned (.tuple #[.slice none 0 0, .int .i64 (lsCode n LF)])) w') := fun w' => RetPf.nothing _ _ _
    generalize RetPf [] (lsCode n LF) w.heap.size = RP at *
    generalize lsCode n LF = cd at *
    clear h ht hno
    go_enter Tryd.func9, Tryd.ntmps9
    go_wp2_with fail
    refine LT.out.mono ?_
    rintro e w1 ⟨rfl, hb⟩
    have B1 : Hid (Below w.heap.size w w1) := hb
    clear hb LT
    go_wp2
    go_ret2
    exact ⟨HR.out _, B1.out⟩
  · have e0 : lsCode n LF = 0 := by
      rcases lsCode_cases n LF with ⟨_, q, _⟩ | ⟨q, _⟩
      · exact q
      · exact absurd hok q
    rw [e0] at LT
    have IN : Hid (∀ w : World, Calls Tryd.prog 25 #[.int .i64 k, .int .i64 (n : Int)] w fun e w' => e = .returned (.bool false) ∧ w = w') := fun w => within_any k n false (by simp; omega) w
    have HR : Hid (∀ w', RetPf [] 4 w.heap.size (.returned (.tuple #[.slice none 0 0, .int .i64 4])) w') := fun w' => RetPf.nothing _ _ _
    generalize RetPf [] 4 w.heap.size = RP at *
    clear h ht hok hk e0
    go_enter Tryd.func9, Tryd.ntmps9
    go_wp2_with fail
    refine LT.out.mono ?_
    rintro e w1 ⟨rfl, hb⟩
    have B1 : Hid (Below w.heap.size w w1) := hb
    clear hb LT
    go_wp2_with fail
    refine (IN.out _).mono ?_
    rintro e _ ⟨rfl, rfl⟩
    clear IN
    go_wp2
    go_ret2
    exact ⟨HR.out _, B1.out⟩
  · have e0 : lsCode n LF = 0 := by
      rcases lsCode_cases n LF with ⟨_, q, _⟩ | ⟨q, _⟩
      · exact q
      · exact absurd hok q
    rw [e0] at LT
    obtain ⟨K, rfl⟩ : ∃ K : Nat, k = (K : Int) := ⟨k.toNat, by omega⟩
    have hK : K < n := by omega
    rw [Int.toNat_natCast] at hL
    have h32 := hok.1
    have IN : Hid (∀ w : World, Calls Tryd.prog 25 #[.int .i64 (K : Int), .int .i64 (n : Int)] w fun e w' => e = .returned (.bool true) ∧ w = w') := fun w => within_any K n true (by simp; omega) w
    have BS : Hid (∀ w : World, Calls Tryd.prog 26 #[.int .i64 (K : Int), .agg #[.int .i64 0, .int .i64 (n : Int)]] w fun e w' => RetSp (sideT 0 n K) w.heap.size e w' ∧ Below w.heap.size w w') := fun w => besides_any n 0 n K (by omega) (by omega) hK (by omega) w
    have sp := side_path LF (p := 0) (q := n) (k := K) (n := n) (by omega) (by omega) hK
    rw [Nat.sub_zero, ← hL] at sp
    have sl : L.length = (sideT 0 n K).length := by rw [← sp, List.length_map]
    have hsi := side_in (p := 0) (q := n) (k := K) (n := n) (by omega) (by omega) hK
    have hent : ∀ i, i < (sideT 0 n K).length → (entS (sideT 0 n K) i).1 < (entS (sideT 0 n K) i).2 ∧ (entS (sideT 0 n K) i).2 ≤ n ∧ entT L i = treeT LF (entS (sideT 0 n K) i).1 ((entS (sideT 0 n K) i).2 - (entS (sideT 0 n K) i).1) := fun i hi => by
      have e1 : entS (sideT 0 n K) i = (sideT 0 n K)[i] := by unfold entS; simp [List.getD_eq_getElem?_getD, hi]
      have q := hsi _ (List.getElem_mem hi)
      rw [← e1] at q
      refine ⟨q.2.1, q.2.2, ?_⟩
      rw [← sp, e1]
      unfold entT
      simp [List.getD_eq_getElem?_getD, hi]
    have hlm : (sideT 0 n K).length ≤ 32 := by rw [side_len (p := 0) (q := n) (k := K) (n := n) (by omega) (by omega) hK]; have := lenT_le (n := n) (k := K - 0); omega
    have RO : Hid (∀ (i b off : Nat) (w : World), i < (sideT 0 n K).length → Els w 2 (some ⟨b, off, none⟩) n (lfF LF) → Tabs w → Calls Tryd.prog 22 #[.slice (some ⟨b, off + (entS (sideT 0 n K) i).1 * 2, none⟩) ((entS (sideT 0 n K) i).2 - (entS (sideT 0 n K) i).1) (c - (entS (sideT 0 n K) i).1)] w fun e w' => e = .returned (.string (entT L i)) ∧ Below w.heap.size w w') := fun i b off w hi h ht => by
      obtain ⟨q1, q2, q3⟩ := hent i hi
      have := rootOver_any (some ⟨b, off + (entS (sideT 0 n K) i).1 * 2, none⟩) ((entS (sideT 0 n K) i).2 - (entS (sideT 0 n K) i).1) (c - (entS (sideT 0 n K) i).1) (fun j => LF ((entS (sideT 0 n K) i).1 + j)) (by omega) (by omega) (by omega) (fun j hj => hok.2 _ (by omega)) w ((h.behind _ (by omega)).less (by omega)) ht
      rwa [treeT_congr (F := fun j => LF ((entS (sideT 0 n K) i).1 + j)) (G := LF) (o := 0) (p := (entS (sideT 0 n K) i).1) (fun j hj => by rw [Nat.zero_add]), ← q3] at this
    have CB : Hid (∀ (i b off : Nat), i < (sideT 0 n K).length → ∀ w : World, (Instr.slice 23 (.slice (some ⟨b, off, none⟩) n c) (some (.int .i64 ((entS (sideT 0 n K) i).1 : Int))) (some (.int .i64 ((entS (sideT 0 n K) i).2 : Int))) none).run Tryd.prog w = .ok (.slice (some ⟨b, off + (entS (sideT 0 n K) i).1 * 2, none⟩) ((entS (sideT 0 n K) i).2 - (entS (sideT 0 n K) i).1) (c - (entS (sideT 0 n K) i).1)) w) := fun i b off hi w => run_cut_both (P := Tryd.prog) 23 leaf_under 2 leaf_sizeOf _ _ (hent i hi).1 (hent i hi).2.1 hc w
    obtain ⟨b, off, rfl, _⟩ := h.opened (by omega)
    have HR : Hid (∀ (v : Value) (w' : World), EO w' w.heap.size 9 1 v (sideT 0 n K).length (txF (entT L)) → RetPf L 0 w.heap.size (.returned (.tuple #[v, .int .i64 0])) w') := fun v w' ho => by
      rw [← sl] at ho
      obtain ⟨a9, c9, rfl⟩ := ho.form
      exact ⟨a9, c9, rfl, ho⟩
    generalize RetPf L 0 w.heap.size = RP at *
    generalize entT L = EL at *
    generalize sideT 0 n K = SL at *
    have HE : Hid (Els w 2 (some ⟨b, off, none⟩) n (lfF LF)) := h
    have HT : Hid (Tabs w) := ht
    clear h ht hok hk e0 hsi hent sp sl hL hK h32
    go_enter Tryd.func9, Tryd.ntmps9
    go_wp2_with fail
    refine LT.out.mono ?_
    rintro e w1 ⟨rfl, hb⟩
    have B1 : Hid (Below w.heap.size w w1) := hb
    clear hb LT
    go_wp2_with fail
    refine (IN.out _).mono ?_
    rintro e _ ⟨rfl, rfl⟩
    clear IN
    go_wp2_with fail
    refine (BS.out _).mono ?_
    rintro e v2 ⟨⟨sa, sc, rfl, ho⟩, hb⟩
    replace B1 : Hid (Below w.heap.size w v2) := B1.out.trans (hb.mono B1.out.size)
    have SE : Hid (Els v2 2 sa SL.length (spF (entS SL))) := ho.els
    have HE2 : Hid (Els v2 2 (some ⟨b, off, none⟩) n (lfF LF)) := HE.out.below B1.out
    have HT2 : Hid (Tabs v2) := HT.out.below B1.out
    clear hb ho BS HE HT
    go_wp2
    go_loopw [7, 26] (fun v i wr => ∃ q : Nat, q ≤ SL.length ∧ i = .int .i64 q ∧ EO wr v2.heap.size 9 1 v q (txF EL) ∧ Below v2.heap.size v2 wr) (fun _ i _ => SL.length - (intOf i).toNat)
    case atStart => exact ⟨0, by omega, rfl, EO.nil _ _ _ _ _, Below.refl _ _⟩
    case round =>
      obtain ⟨q, hq, rfl, ho, hb⟩ := hrel
      obtain ⟨pa, pc, hv⟩ := ho.form
      subst hv
      by_cases hlt : q < SL.length
      · have hlt' : (q : Int) < (SL.length : Int) := by omega
        obtain ⟨sb, so, rfl, hs⟩ := SE.out.opened (by omega)
        obtain ⟨s0, s1⟩ := Els.spC hs q hlt
        have t0 : wr.cell? ⟨sb, so + q * 2, none⟩ = some (.int .i64 ((entS SL q).1 : Int)) := by rw [hb.cell (strBlock s0)]; exact s0
        have t1 : wr.cell? ⟨sb, so + q * 2 + 1, none⟩ = some (.int .i64 ((entS SL q).2 : Int)) := by rw [hb.cell (strBlock s1)]; exact s1
        have RQ : Hid _ := fun w => RO.out q b off w hlt
        have cb := CB.out q b off hlt
        generalize (entS SL q).1 = f1 at *
        generalize (entS SL q).2 = f2 at *
        have WB : Below wr.heap.size wr (wr.alloc (.cells #[.int .i64 (f1 : Int), .int .i64 (f2 : Int)] 52)) := (Below.refl _ _).alloc (Nat.le_refl _) _
        have B2 : Hid (Below v2.heap.size v2 (wr.alloc (.cells #[.int .i64 (f1 : Int), .int .i64 (f2 : Int)] 52))) := hb.trans (WB.mono hb.size)
        have HO2 : Hid (EO (wr.alloc (.cells #[.int .i64 (f1 : Int), .int .i64 (f2 : Int)] 52)) v2.heap.size 9 1 (.slice pa q pc) q (txF EL)) := ho.below WB
        clear hs s0 s1 hb WB ho
        go_wp2_with fail
        generalize (wr.alloc (.cells #[.int .i64 (f1 : Int), .int .i64 (f2 : Int)] 52)) = v4 at *
        refine (RQ.out _ (HE2.out.below B2.out) (HT2.out.below B2.out)).mono ?_
        rintro e v5 ⟨rfl, hb⟩
        have B3 : Below v2.heap.size v2 v5 := B2.out.trans (hb.mono B2.out.size)
        have hA6 : Below v5.heap.size v5 (v5.alloc (.cells #[.string (EL q)] 9)) := (Below.refl _ _).alloc (Nat.le_refl _) _
        obtain ⟨v9, v6, hr, ho6, hg, -⟩ := appTx (v5.alloc (.cells #[.string (EL q)] 9)) v2.heap.size (.slice pa q pc) q v5.heap.size EL (EL q) (Nat.le_trans B3.size hA6.size) (by omega) ((HO2.out.below hb).below hA6) (fun j hj => by
          obtain rfl : j = 0 := by omega
          rw [World.cell?_alloc_at (w := v5) #[.string (EL q)] 9 _ _ rfl]
          rfl)
        have B6 : Hid (Below v2.heap.size v2 v6) := (B3.trans (hA6.mono B3.size)).grown hg (Nat.le_trans B3.size hA6.size) (fun z hz => (HO2.out.ge z hz).1)
        have HO6 : Hid (EO v6 v2.heap.size 9 1 v9 (q + 1) (txF EL)) := EO.congr ho6 (fun i hi j hj => by
          unfold txF
          rcases Nat.lt_or_ge i q with z | z
          · rw [updE_ne _ _ (by omega)]
          · obtain rfl : i = q := by omega
            rw [updE_eq])
        have HAP : Hid _ := hr
        clear hb B3 hA6 hr ho6 hg B2 HO2 RQ cb t0 t1
        generalize EL q = EQ at *
        go_wp2_with (at_builtin; refine Lib.wpList_append_run _ rfl (.tmp 30) (.tmp 38) _ _ rfl _ _ rfl rfl _ _ (HAP.out _) ?_)
        go_roundw
        case rel => exact ⟨q + 1, by omega, by go_num, HO6.out, B6.out⟩
        case measure => simp [intOf]; omega
      · have hlt' : ¬ (q : Int) < (SL.length : Int) := by omega
        obtain rfl : q = SL.length := by omega
        have Q : Hid _ := HR.out _ _ (ho.mono B1.out.size)
        have B3 : Hid (Below w.heap.size w wr) := B1.out.trans (hb.mono B1.out.size)
        clear ho hb HR SE RO CB HE2 HT2 B1
        go_wp2
        go_ret2
        exact ⟨Q.out, B3.out⟩
end Go.Proofs.YtpljdlgjeeikkaaDoor
