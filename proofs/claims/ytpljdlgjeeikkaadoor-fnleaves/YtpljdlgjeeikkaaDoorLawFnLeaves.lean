/-
  The law FnLeaves (written by tools/fnleaves_law.py).
-/
import Derived.Test.YtpljdlgjeeikkaaDoorTreeD
import Derived.Test.YtpljdlgjeeikkaaDoorRootI
import Derived.Test.YtpljdlgjeeikkaaDoorProveS
import Derived.Test.YtpljdlgjeeikkaaDoorChangeI
namespace Go.Proofs.YtpljdlgjeeikkaaDoor
open Go.ChangeShapes Go.WideShapes Go.ChangeAt Go.RowKit
set_option linter.unusedVariables false
theorem EO.slpT {w : World} {B : Nat} {t : TypeId} {s : Nat} {a : Option Addr} {n c : Nat} {F : Nat → Nat → Value} (h : EO w B t s (.slice a n c) n F) : n ≤ c ∧ c ≤ maxLen := by
  have := h.slp
  exact ⟨this.le, this.mx⟩
theorem isRow_slp {w : World} {a : Option Addr} {len cap : Nat} {zs : List Int} (h : IsRow .u8 w a len cap zs) : (a = none → cap = 0) ∧ len ≤ cap ∧ cap ≤ maxLen ∧ (0 < cap → a = none ∨ ∃ g off, a = some ⟨g, off, none⟩) := by
  rcases h with ⟨rfl, rfl, rfl, rfl⟩ | ⟨x, rfl, hl, hm, hz, hcell, hwz⟩
  · exact ⟨fun _ => rfl, Nat.le_refl _, by unfold maxLen; omega, fun h => absurd h (by omega)⟩
  · refine ⟨(fun e => by cases e), hl, hm, fun hc => .inr ?_⟩
    obtain ⟨b, off, sp⟩ := x
    have h0 := hcell 0 (by omega)
    have := World.cell?_spot h0
    simp [Addr.add] at this
    subst this
    exact ⟨b, off, rfl⟩
theorem byte_elem : Tryd.prog.elem 22 = 5 := by kernel_rfl
theorem byte_under : Tryd.prog.underlying 22 = some (.slice (Tryd.prog.elem 22)) := by rw [byte_elem]; exact Tryd.underlying22
theorem byte_sizeOf (w : World) : (sizeOf (Tryd.prog.elem 22)).run Tryd.prog w = .ok 1 w := by
  obtain ⟨i, hi, hz, hsz, hby⟩ := info_parts Tryd.info8
  simp [sizeOf, typeInfo, byte_elem, hi, hsz]
theorem run_cut_bytes {w0 : World} {a : Option Addr} {len cap : Nat} {zs : List Int} (h : IsRow .u8 w0 a len cap zs) (k : Nat) (hk : k ≤ len) (w : World) :
    (Instr.slice 22 (.slice a len cap) none (some (.int .i64 (k : Int))) none).run Tryd.prog w = .ok (.slice a k cap) w := by
  obtain ⟨h1, h2, h3, h4⟩ := isRow_slp h
  rcases Nat.eq_zero_or_pos cap with hc | hc
  · rw [run_slice_h (P := Tryd.prog) (w := w) 22 a len cap byte_under .i64 (k : Int) (by omega) (by omega)]
    simp only [byte_sizeOf, Result.andThen, sliced, Int.toNat_natCast, Nat.sub_zero]
    rw [if_pos hc]
  · exact run_cut_to (P := Tryd.prog) 22 byte_under 1 byte_sizeOf ⟨h1, h4 hc, h2, h3⟩ k (by omega) w
theorem Low.ls {m : Nat} {LF : Nat → Lf} (h : Low m LF) (hm : m ≤ 32) : LsOk m LF := ⟨hm, fun i hi => (h i hi).1⟩
theorem rootA_ok {n : Nat} {LF : Nat → Lf} (h : LsOk n LF) : rootA n LF = treeT LF 0 n ∧ lsCode n LF = 0 := by
  rcases lsCode_cases n LF with ⟨_, h1, h2⟩ | ⟨q, _⟩
  · exact ⟨h2, h1⟩
  · exact absurd h q
set_option maxRecDepth 100000 in
set_option maxHeartbeats 8000000 in
theorem law_fnLeaves (a0 a1 : Option Addr) (n0 c0 n1 c1 : Nat) (z0 z1 : List Int) (w : World) (r0 : IsRow .u8 w a0 n0 c0 z0) (r1 : IsRow .u8 w a1 n1 c1 z1) (hT : Tabs w) :
    Calls Tryd.prog 3 #[.slice a0 n0 c0, .slice a1 n1 c1] w fun e w' => e = .returned (.bool true) ∧ Below w.heap.size w w' := by
  by_cases hn0 : n0 ≤ 1048576
  case neg =>
    have e0 : (1048576 : Int) < (n0 : Int) := by omega
    clear r0 r1 hT
    go_enter Tryd.func3, Tryd.ntmps3
    go_wp2
    go_ret
    exact ⟨rfl, Below.refl _ _⟩
  have e0 : ¬ (1048576 : Int) < (n0 : Int) := by omega
  by_cases hn1 : n1 ≤ 1048576
  case neg =>
    have e1 : (1048576 : Int) < (n1 : Int) := by omega
    clear r0 r1 hT
    go_enter Tryd.func3, Tryd.ntmps3
    go_wp2
    go_ret
    exact ⟨rfl, Below.refl _ _⟩
  have e1 : ¬ (1048576 : Int) < (n1 : Int) := by omega
  obtain ⟨f0, hf0, hc0⟩ := code8_of_row r0
  obtain ⟨f1, hf1, hc1⟩ := code8_of_row r1
  have LV : Hid (∀ u : World, Below w.heap.size w u → Calls Tryd.prog 4 #[.slice a0 n0 c0] u fun e u' => RetLvs u.heap.size e u' ∧ Below u.heap.size u u') := fun u hb => leavesOf_t a0 n0 c0 f0 hf0 (by unfold maxLen; omega) u (hc0.below hb)
  have LE : Hid (∀ u : World, Below w.heap.size w u → Calls Tryd.prog 5 #[.slice a1 n1 c1] u fun e u' => RetLeaf e ∧ Below u.heap.size u u') := fun u hb => leafOf_t a1 n1 c1 f1 hf1 (by unfold maxLen; omega) u (hc1.below hb)
  have AT : Hid (∀ (u : World) (i n : Nat), Below w.heap.size w u → i ≤ 1000 → 1 ≤ n → n ≤ 1000 → Calls Tryd.prog 6 #[.slice a1 n1 c1, .int .i64 (i : Int), .int .i64 (n : Int)] u fun e u' => AtT n e ∧ Below u.heap.size u u') := fun u i n hb h2 h3 h4 => at_t _ _ _ _ _ (r1.below hb) i n (by omega) h3 (by omega)
  obtain ⟨M, hM⟩ : ∃ M, M = min 20 n1 := ⟨_, rfl⟩
  have HM : Hid ((if (n1 : Int) < 20 then (n1 : Int) else 20) = (M : Int) ∧ (if (20 : Int) < (n1 : Int) then (20 : Int) else (n1 : Int)) = (M : Int) ∧ (if (20 : Int) ≤ (n1 : Int) then (20 : Int) else (n1 : Int)) = (M : Int) ∧ min (20 : Int) (n1 : Int) = (M : Int)) := by
    refine ⟨?_, ?_, ?_, by omega⟩
    · split <;> omega
    · split <;> omega
    · split <;> omega
  have SH : Hid (∀ u : World, Below w.heap.size w u → Calls Tryd.prog 14 #[.slice a1 M c1] u fun e u' => Ret32 e ∧ Below u.heap.size u u') := fun u hb => specHash_t a1 M c1 f1 hf1 (by omega) (isRow_slp r1).1 u (fun i hi => hc1.below hb i (by omega))
  have CT : Hid (∀ u : World, (Instr.slice 22 (.slice a1 n1 c1) none (some (.int .i64 (M : Int))) none).run Tryd.prog u = .ok (.slice a1 M c1) u) := fun u => run_cut_bytes r1 M (by omega) u
  have A1 : Hid (Below w.heap.size w w) := Below.refl _ _
  have TW : Hid (Tabs w) := hT
  clear r0 r1 hT hf0 hc0 hf1 hc1 hM
  go_enter Tryd.func3, Tryd.ntmps3
  go_wp2_with fail
  have AP : Hid _ := A1.out.size
  refine (LV.out _ A1.out).mono ?_
  rintro e v1 ⟨⟨m, LF, pa, pc, hm, hlow, rfl, ho⟩, hb⟩
  replace A1 : Hid (Below w.heap.size w v1) := A1.out.trans (hb.mono A1.out.size)
  have RO : Hid (EO v1 w.heap.size 26 2 (.slice pa m pc) m (lfF LF)) := ho.mono AP.out
  have HL : Hid (Low m LF) := hlow
  clear hb ho hlow LV AP
  go_wp2_with fail
  refine (LE.out _ A1.out).mono ?_
  rintro e v2 ⟨⟨x, hx, hx8, rfl⟩, hb⟩
  replace A1 : Hid (Below w.heap.size w v2) := A1.out.trans (hb.mono A1.out.size)
  replace RO : Hid (EO v2 w.heap.size 26 2 (.slice pa m pc) m (lfF LF)) := RO.out.below hb
  clear hb LE
  have hA4 : Below v2.heap.size v2 (v2.alloc (.cells #[.int .i64 x.v, .string x.h] 26)) := (Below.refl _ _).alloc (Nat.le_refl _) _
  have BL := Box2.made v2 26 (.int .i64 x.v) (.string x.h)
  obtain ⟨v9, u5, hr, ho5, hg, -⟩ := appLf (v2.alloc (.cells #[.int .i64 x.v, .string x.h] 26)) w.heap.size (.slice pa m pc) m v2.heap.size LF x (Nat.le_trans A1.out.size hA4.size) (by omega) (RO.out.below hA4) (fun j hj => by
    rcases (show j = 0 ∨ j = 1 by omega) with rfl | rfl
    · exact BL.c0
    · exact BL.c1)
  replace A1 : Hid (Below w.heap.size w u5) := (A1.out.trans (hA4.mono A1.out.size)).grown hg (Nat.le_trans A1.out.size hA4.size) (fun z hz => (RO.out.ge z hz).1)
  obtain ⟨n, hn⟩ : ∃ n, n = m + 1 := ⟨_, rfl⟩
  rw [← hn] at ho5
  have HLG := HL.out.snoc ⟨hx, hx8⟩
  rw [← hn] at HLG
  generalize updE LF m x = LG at *
  obtain ⟨ca, cc, hv9⟩ := ho5.form
  subst hv9
  obtain ⟨hcc, hcm⟩ := ho5.slpT
  obtain ⟨b, off, rfl, _⟩ := ho5.els.opened (by omega)
  have HE : Hid (Els u5 2 (some ⟨b, off, none⟩) n (lfF LG)) := ho5.els
  have HAP : Hid _ := hr
  have hn32 : n ≤ 12 := by omega
  have hn1' : 1 ≤ n := by omega
  have HLow : Hid (Low n LG) := HLG
  have HLs : Hid (LsOk n LG) := HLG.ls (by omega)
  have HCC : Hid (n ≤ cc ∧ cc ≤ maxLen) := ⟨hcc, hcm⟩
  clear hA4 BL hr ho5 hg RO HL hx hx8 hn HLG hcc hcm
  go_upto_region 4 with (at_builtin; refine Lib.wpList_append_run _ rfl (.tmp 37) (.tmp 40) _ _ rfl _ _ rfl rfl _ _ (HAP.out _) ?_)
  clear HAP
  go_wp2_with fail
  refine (AT.out _ 0 n A1.out (by omega) hn1' (by omega)).mono ?_
  rintro e v3 ⟨⟨K, hK, rfl⟩, hb⟩
  replace A1 : Hid (Below w.heap.size w v3) := A1.out.trans (hb.mono A1.out.size)
  replace HE : Hid (Els v3 2 (some ⟨b, off, none⟩) n (lfF LG)) := HE.out.below hb
  clear hb 
  obtain ⟨RT, hRT⟩ : ∃ RT, RT = treeT LG 0 n := ⟨_, rfl⟩
  obtain ⟨PL, hPL⟩ : ∃ PL, PL = pathT LG 0 n K := ⟨_, rfl⟩
  have LI : Hid (∀ (b off : Nat) (u : World), Els u 2 (some ⟨b, off, none⟩) n (lfF LG) → Tabs u → Calls Tryd.prog 7 #[.slice (some ⟨b, off, none⟩) n cc] u fun e u' => e = .returned (.tuple #[.string RT, .int .i64 0]) ∧ Below u.heap.size u u') := fun b off u h ht => by
    have := implLeafRoot_any (some ⟨b, off, none⟩) n cc LG (by omega) HCC.out.1 HCC.out.2 u h ht
    rwa [(rootA_ok HLs.out).1, (rootA_ok HLs.out).2, ← hRT] at this
  have LS : Hid (∀ (b off : Nat) (u : World), Els u 2 (some ⟨b, off, none⟩) n (lfF LG) → Calls Tryd.prog 8 #[.slice (some ⟨b, off, none⟩) n cc] u fun e u' => e = .returned (.tuple #[.string RT, .int .i64 0]) ∧ Below u.heap.size u u') := fun b off u h => by
    have := specLeafRoot_any (some ⟨b, off, none⟩) n cc LG (by omega) HCC.out.1 HCC.out.2 u h
    rwa [(rootA_ok HLs.out).1, (rootA_ok HLs.out).2, ← hRT] at this
  have hPA : PfA n LG (K : Int) PL 0 := .inr (.inr ⟨HLs.out, by omega, by rw [Int.toNat_natCast]; exact hPL, rfl⟩)
  have hPl : PL.length = lenT n K := by rw [hPL, pathT_length]
  have hPi : ∀ i, i < PL.length → (entT PL i).size = 32 := fun i hi => by
    have e := side_path LG (p := 0) (q := n) (k := K) (n := n) (by omega) (by omega) hK
    rw [Nat.sub_zero, ← hPL] at e
    rw [← e] at hi ⊢
    rw [List.length_map] at hi
    unfold entT
    rw [List.getD_eq_getElem?_getD, List.getElem?_map, List.getElem?_eq_getElem hi]
    exact treeT_size _ _ _
  have hl32 : PL.length ≤ 32 := by rw [hPl]; have := lenT_le (n := n) (k := K); omega
  have UP : Hid (∀ X : Lf, upT (leafT X) n K (entT PL) = treeT (updE LG K X) 0 n) := fun X => by
    have := up_path LG (updE LG K X) (o := 0) hK (fun i hi hne => by rw [Nat.zero_add, updE_ne _ _ hne])
    rw [Nat.zero_add, updE_eq, ← hPL] at this
    exact this
  have RF : Hid (∀ (X : Lf) (ga : Option Addr) (gc : Nat) (r : ByteArray) (u : World), X.Ok → treeT (updE LG K X) 0 n = r → Strs u ga PL.length (entT PL) → Tabs u → Calls Tryd.prog 11 #[.agg #[.int .i64 X.v, .string X.h], .int .i64 (K : Int), .int .i64 (n : Int), .slice ga PL.length gc] u fun e u' => e = .returned (.tuple #[.string r, .int .i64 0]) ∧ Below u.heap.size u u') := fun X ga gc r u hX hr hs ht =>
    implRf_any X (K : Int) (n : Int) ga PL.length gc (entT PL) r 0 (.inr (.inr (.inr (.inr ⟨by omega, ⟨hX, hPi⟩, ⟨⟨by omega, by omega⟩, by omega, by omega⟩, by rw [Int.toNat_natCast, Int.toNat_natCast]; exact hPl, by rw [Int.toNat_natCast, Int.toNat_natCast, UP.out X, hr], rfl⟩)))) (by omega) u hs ht
  have PI : Hid (∀ (b off : Nat) (u : World), Els u 2 (some ⟨b, off, none⟩) n (lfF LG) → Tabs u → Calls Tryd.prog 9 #[.slice (some ⟨b, off, none⟩) n cc, .int .i64 (K : Int)] u fun e u' => (∃ ga gc, e = .returned (.tuple #[.slice ga PL.length gc, .int .i64 0]) ∧ Strs u' ga PL.length (entT PL)) ∧ Below u.heap.size u u') := fun b off u h ht => (implPf_any (some ⟨b, off, none⟩) n cc LG (K : Int) PL 0 hPA (by omega) HCC.out.1 HCC.out.2 u h ht).mono fun _ _ q => ⟨by
    obtain ⟨⟨a9, c9, e9, ho⟩, _⟩ := q
    exact ⟨a9, c9, e9, ho.strs⟩, q.2⟩
  have PS : Hid (∀ (b off : Nat) (u : World), Els u 2 (some ⟨b, off, none⟩) n (lfF LG) → Calls Tryd.prog 10 #[.slice (some ⟨b, off, none⟩) n cc, .int .i64 (K : Int)] u fun e u' => (∃ ga gc, e = .returned (.tuple #[.slice ga PL.length gc, .int .i64 0]) ∧ Strs u' ga PL.length (entT PL)) ∧ Below u.heap.size u u') := fun b off u h => (specPf_any (some ⟨b, off, none⟩) n cc LG (K : Int) PL 0 hPA (by omega) HCC.out.1 HCC.out.2 u h).mono fun _ _ q => ⟨by
    obtain ⟨⟨a9, c9, e9, ho⟩, _⟩ := q
    exact ⟨a9, c9, e9, ho.strs⟩, q.2⟩
  have ST : Hid (∀ (ga gb : Option Addr) (gc gd : Nat) (u : World), Strs u ga PL.length (entT PL) → Strs u gb PL.length (entT PL) → Calls Tryd.prog 12 #[.slice ga PL.length gc, .slice gb PL.length gd] u fun e u' => e = .returned (.bool true) ∧ Below u.heap.size u u') := fun ga gb gc gd u h h' => (sameTexts_yes ga gb PL.length gc gd (entT PL) (entT PL) u h h' (fun _ _ => rfl) (by omega)).mono fun _ _ q => ⟨q.1, by obtain ⟨z, e⟩ := q.2; rw [e]; exact below_dN _ _⟩
  have LO : Hid (∀ (b off : Nat) (u : World), Els u 2 (some ⟨b, off, none⟩) n (lfF LG) → Calls Tryd.prog 13 #[.slice (some ⟨b, off, none⟩) n cc] u fun e u' => e = .returned (.bool true) ∧ Below u.heap.size u u') := fun b off u h => implLeavesOK_any (some ⟨b, off, none⟩) n cc LG (by omega) u h true (tB_yes HLs.out).symm
  have CL : Hid (∀ (b off : Nat) (X : Lf) (u : World), X.Ok → (LG K).v ≤ X.v → Els u 2 (some ⟨b, off, none⟩) n (lfF LG) → Calls Tryd.prog 15 #[.slice (some ⟨b, off, none⟩) n cc, .int .i64 (K : Int), .agg #[.int .i64 X.v, .string X.h]] u fun e u' => (∃ p2 q2 c2, e = .returned (.tuple #[.slice (some ⟨p2, q2, none⟩) n c2, .int .i64 0]) ∧ Els u' 2 (some ⟨p2, q2, none⟩) n (lfF (updE LG K X)) ∧ n ≤ c2 ∧ c2 ≤ maxLen) ∧ Below u.heap.size u u') := fun b off X u hX hv h => (implCl_any (some ⟨b, off, none⟩) n cc LG (K : Int) X n (updE LG K X) 0 (.inr (.inr (.inr (.inr (.inr (.inr ⟨HLs.out, hX, by omega, by rw [Int.toNat_natCast]; omega, rfl, by rw [Int.toNat_natCast], rfl⟩)))))) (by omega) (fun e => by cases e) u h).mono fun _ _ q => ⟨by
    obtain ⟨⟨a9, c9, e9, ho⟩, _⟩ := q
    obtain ⟨p2, q2, rfl, _⟩ := ho.els.opened (by omega)
    exact ⟨p2, q2, c9, e9, ho.els, ho.slpT⟩, q.2⟩
  have L2 : Hid (∀ (b off c2 : Nat) (X : Lf) (u : World), X.Ok → n ≤ c2 → c2 ≤ maxLen → Els u 2 (some ⟨b, off, none⟩) n (lfF (updE LG K X)) → Tabs u → Calls Tryd.prog 7 #[.slice (some ⟨b, off, none⟩) n c2] u fun e u' => e = .returned (.tuple #[.string (treeT (updE LG K X) 0 n), .int .i64 0]) ∧ Below u.heap.size u u') := fun b off c2 X u hX h1 h2 h ht => by
    have hls : LsOk n (updE LG K X) := ⟨by omega, fun i hi => by
      by_cases e : i = K
      · rw [e, updE_eq]; exact hX
      · rw [updE_ne _ _ e]; exact HLs.out.2 i hi⟩
    have := implLeafRoot_any (some ⟨b, off, none⟩) n c2 (updE LG K X) (by omega) h1 h2 u h ht
    rwa [(rootA_ok hls).1, (rootA_ok hls).2] at this
  have hBS : BsA (K : Int) 3 ⟨#[115, 101, 97, 108, 101, 100]⟩ (bsumT K 3 ⟨#[115, 101, 97, 108, 101, 100]⟩) 0 := .inr (.inr (.inr ⟨by show 6 ≤ 200; omega, by omega, by rw [Int.toNat_natCast]; rfl, rfl⟩))
  have BI : Hid (∀ u : World, Tabs u → Calls Tryd.prog 16 #[.int .i64 (K : Int), .int .i64 3, .string ⟨#[115, 101, 97, 108, 101, 100]⟩] u fun e u' => e = .returned (.tuple #[.string (bsumT K 3 ⟨#[115, 101, 97, 108, 101, 100]⟩), .int .i64 0]) ∧ Below u.heap.size u u') := fun u ht => implBs_any _ _ _ _ _ hBS u ht
  have BS : Hid (∀ u : World, Calls Tryd.prog 17 #[.int .i64 (K : Int), .int .i64 3, .string ⟨#[115, 101, 97, 108, 101, 100]⟩] u fun e u' => e = .returned (.tuple #[.string (bsumT K 3 ⟨#[115, 101, 97, 108, 101, 100]⟩), .int .i64 0]) ∧ Below u.heap.size u u') := fun u => specBs_any _ _ _ _ _ hBS u
  generalize bsumT K 3 ⟨#[115, 101, 97, 108, 101, 100]⟩ = BT at *
  have KX : Hid ((LG K).Ok ∧ (LG K).v ≤ 8) := HLow.out K hK
  have SK : Hid (treeT (updE LG K (LG K)) 0 n = RT) := by
    show _ = _
    rw [hRT]
    exact treeT_congr (fun i hi => by
      rw [Nat.zero_add]
      by_cases e : i = K
      · rw [e, updE_eq]
      · rw [updE_ne _ _ e])
  generalize entT PL = EL at *
  generalize PL.length = N at *
  clear hPA hPl hPi hRT hPL hBS UP HLow HCC
  go_wp2_with fail
  refine (LI.out _ _ _ HE.out (TW.out.below A1.out)).mono ?_
  rintro e v4 ⟨rfl, hb⟩
  replace A1 : Hid (Below w.heap.size w v4) := A1.out.trans (hb.mono A1.out.size)
  replace HE : Hid (Els v4 2 (some ⟨b, off, none⟩) n (lfF LG)) := HE.out.below hb
  clear hb LI
  go_wp2_with fail
  refine (LS.out _ _ _ HE.out).mono ?_
  rintro e v5 ⟨rfl, hb⟩
  replace A1 : Hid (Below w.heap.size w v5) := A1.out.trans (hb.mono A1.out.size)
  replace HE : Hid (Els v5 2 (some ⟨b, off, none⟩) n (lfF LG)) := HE.out.below hb
  clear hb LS
  go_wp2_with fail
  refine (PI.out _ _ _ HE.out (TW.out.below A1.out)).mono ?_
  rintro e v6 ⟨⟨ga, gc, rfl, hs⟩, hb⟩
  replace A1 : Hid (Below w.heap.size w v6) := A1.out.trans (hb.mono A1.out.size)
  replace HE : Hid (Els v6 2 (some ⟨b, off, none⟩) n (lfF LG)) := HE.out.below hb
  have SG : Hid (Strs v6 ga N EL) := hs
  clear hb hs PI
  go_wp2_with fail
  refine (PS.out _ _ _ HE.out).mono ?_
  rintro e v7 ⟨⟨sa, sc, rfl, hs⟩, hb⟩
  replace A1 : Hid (Below w.heap.size w v7) := A1.out.trans (hb.mono A1.out.size)
  replace HE : Hid (Els v7 2 (some ⟨b, off, none⟩) n (lfF LG)) := HE.out.below hb
  replace SG : Hid (Strs v7 ga N EL) := SG.out.below hb
  have SW : Hid (Strs v7 sa N EL) := hs
  clear hb hs PS
  have hK' : (K : Int) < (n : Int) := by omega
  obtain ⟨b', off', eb, hcc⟩ := HE.out K hK
  cases eb
  have t0 := hcc 0 (by omega)
  have t1 := hcc 1 (by omega)
  simp only [lfF, lfV, Nat.add_zero] at t0 t1
  clear hcc
  go_wp2_with fail
  clear t0 t1
  refine (RF.out (LG K) _ _ RT _ KX.out.1 SK.out SG.out (TW.out.below A1.out)).mono ?_
  rintro e v8 ⟨rfl, hb⟩
  replace A1 : Hid (Below w.heap.size w v8) := A1.out.trans (hb.mono A1.out.size)
  replace HE : Hid (Els v8 2 (some ⟨b, off, none⟩) n (lfF LG)) := HE.out.below hb
  replace SG : Hid (Strs v8 ga N EL) := SG.out.below hb
  replace SW : Hid (Strs v8 sa N EL) := SW.out.below hb
  clear hb 
  go_wp2_with fail
  refine (ST.out _ _ _ _ _ SG.out SW.out).mono ?_
  rintro e v9 ⟨rfl, hb⟩
  replace A1 : Hid (Below w.heap.size w v9) := A1.out.trans (hb.mono A1.out.size)
  replace HE : Hid (Els v9 2 (some ⟨b, off, none⟩) n (lfF LG)) := HE.out.below hb
  replace SG : Hid (Strs v9 ga N EL) := SG.out.below hb
  replace SW : Hid (Strs v9 sa N EL) := SW.out.below hb
  clear hb ST
  clear SW
  go_wp2_with fail
  refine (LO.out _ _ _ HE.out).mono ?_
  rintro e v10 ⟨rfl, hb⟩
  replace A1 : Hid (Below w.heap.size w v10) := A1.out.trans (hb.mono A1.out.size)
  replace HE : Hid (Els v10 2 (some ⟨b, off, none⟩) n (lfF LG)) := HE.out.below hb
  replace SG : Hid (Strs v10 ga N EL) := SG.out.below hb
  clear hb LO
  go_upto_region 12 with fail
  have LC : Hid (v10.cell? ⟨b, off + K * 2, none⟩ = some (.int .i64 (LG K).v)) := by
    obtain ⟨b', off', eb, hcc⟩ := HE.out K hK
    cases eb
    exact hcc 0 (by omega)
  have hv0 : 0 ≤ (LG K).v := KX.out.1.1.1
  have hv8 : (LG K).v ≤ 8 := KX.out.2
  have A2 : Hid (Below w.heap.size w v10) := A1.out
  have H : Below v10.heap.size v10 v10.drew := (Below.refl _ _).drew
  refine wp_region_noPanic ?_
  refine wp_region_held_drew (S := fun w' => Below v10.heap.size v10 w') (by kernel_rfl) H (fun _ => ?_)
  generalize v10.drew = y0 at *
  refine wpAnyH_take (i := 0) (v := .slice (some ⟨b, off, none⟩) n cc) rfl (by kernel_rfl) (by kernel_rfl) (by kernel_rfl) (fun _ _ _ h => h) (Or.inl ⟨by rfl, ?_⟩) H ?_
  · intro w' hSw; go_simp
  change wpAnyH _ _ _ _ _ _ _ { tmps := #[_, _, _, _, _, _, _, _, _, _, _, _, _, _, _, _, _, _, _, _, _, _, _, _, _, _, _, _, _, _, _, _, _, _, _, _, _, _, _, _, _, _, _, _, _, _, _, _, _, _, _, _, _, _, _, _, _, _, _, _, _, _, _, _, _, _, _, _, _, _, _, _, _, _, _, _, _, _, _, _, _, _, _, _, _, _, _, _, _, _, _, _, _, _, _, _, _, _, _, _, _, _, _, _, _, _, _, _, _, _, _, _, _, _, _, _, _, _, _, _, _, _, _, _, _, _, _, _, _, _, _, _, _, _, _, _, _, _, _, _, _, _, _, _, _, _, _, _, _, _, _, _, _, _, _, _, _, _, _, _, _, _, _, _, _, _, _, _, _, _, _, _, _, _, _, _, _, _, _, _, _], defers := _ } _
  refine wpAnyH_take (i := 1) (v := .int .i64 (K : Int)) rfl (by kernel_rfl) (by kernel_rfl) (by kernel_rfl) (fun _ _ _ h => h) (Or.inl ⟨by rfl, ?_⟩) H ?_
  · intro w' hSw; go_simp
  change wpAnyH _ _ _ _ _ _ _ { tmps := #[_, _, _, _, _, _, _, _, _, _, _, _, _, _, _, _, _, _, _, _, _, _, _, _, _, _, _, _, _, _, _, _, _, _, _, _, _, _, _, _, _, _, _, _, _, _, _, _, _, _, _, _, _, _, _, _, _, _, _, _, _, _, _, _, _, _, _, _, _, _, _, _, _, _, _, _, _, _, _, _, _, _, _, _, _, _, _, _, _, _, _, _, _, _, _, _, _, _, _, _, _, _, _, _, _, _, _, _, _, _, _, _, _, _, _, _, _, _, _, _, _, _, _, _, _, _, _, _, _, _, _, _, _, _, _, _, _, _, _, _, _, _, _, _, _, _, _, _, _, _, _, _, _, _, _, _, _, _, _, _, _, _, _, _, _, _, _, _, _, _, _, _, _, _, _, _, _, _, _, _, _], defers := _ } _
  refine wpAnyH_take (i := 2) (v := .pointer (some ⟨b, off + K * 2, none⟩)) rfl (by kernel_rfl) (by kernel_rfl) (by kernel_rfl) (fun _ _ _ h => h) (Or.inl ⟨by rfl, ?_⟩) H ?_
  · intro w' hSw; go_simp
  change wpAnyH _ _ _ _ _ _ _ { tmps := #[_, _, _, _, _, _, _, _, _, _, _, _, _, _, _, _, _, _, _, _, _, _, _, _, _, _, _, _, _, _, _, _, _, _, _, _, _, _, _, _, _, _, _, _, _, _, _, _, _, _, _, _, _, _, _, _, _, _, _, _, _, _, _, _, _, _, _, _, _, _, _, _, _, _, _, _, _, _, _, _, _, _, _, _, _, _, _, _, _, _, _, _, _, _, _, _, _, _, _, _, _, _, _, _, _, _, _, _, _, _, _, _, _, _, _, _, _, _, _, _, _, _, _, _, _, _, _, _, _, _, _, _, _, _, _, _, _, _, _, _, _, _, _, _, _, _, _, _, _, _, _, _, _, _, _, _, _, _, _, _, _, _, _, _, _, _, _, _, _, _, _, _, _, _, _, _, _, _, _, _, _], defers := _ } _
  refine wpAnyH_take (i := 3) (v := .pointer (some ⟨b, off + K * 2, none⟩)) rfl (by kernel_rfl) (by kernel_rfl) (by kernel_rfl) (fun _ _ _ h => h) (Or.inl ⟨by rfl, ?_⟩) H ?_
  · intro w' hSw; go_simp
  change wpAnyH _ _ _ _ _ _ _ { tmps := #[_, _, _, _, _, _, _, _, _, _, _, _, _, _, _, _, _, _, _, _, _, _, _, _, _, _, _, _, _, _, _, _, _, _, _, _, _, _, _, _, _, _, _, _, _, _, _, _, _, _, _, _, _, _, _, _, _, _, _, _, _, _, _, _, _, _, _, _, _, _, _, _, _, _, _, _, _, _, _, _, _, _, _, _, _, _, _, _, _, _, _, _, _, _, _, _, _, _, _, _, _, _, _, _, _, _, _, _, _, _, _, _, _, _, _, _, _, _, _, _, _, _, _, _, _, _, _, _, _, _, _, _, _, _, _, _, _, _, _, _, _, _, _, _, _, _, _, _, _, _, _, _, _, _, _, _, _, _, _, _, _, _, _, _, _, _, _, _, _, _, _, _, _, _, _, _, _, _, _, _, _], defers := _ } _
  refine wpAnyH_take (i := 4) (v := .int .i64 (LG K).v) rfl (by kernel_rfl) (by kernel_rfl) (by kernel_rfl) (fun _ _ _ h => h) (Or.inl ⟨by rfl, ?_⟩) H ?_
  · intro w' hSw; have q0 : w'.cell? ⟨b, off + K * 2, none⟩ = some (.int .i64 (LG K).v) := (hSw.cell (strBlock LC.out)).trans LC.out; clear hSw; go_simp
  change wpAnyH _ _ _ _ _ _ _ { tmps := #[_, _, _, _, _, _, _, _, _, _, _, _, _, _, _, _, _, _, _, _, _, _, _, _, _, _, _, _, _, _, _, _, _, _, _, _, _, _, _, _, _, _, _, _, _, _, _, _, _, _, _, _, _, _, _, _, _, _, _, _, _, _, _, _, _, _, _, _, _, _, _, _, _, _, _, _, _, _, _, _, _, _, _, _, _, _, _, _, _, _, _, _, _, _, _, _, _, _, _, _, _, _, _, _, _, _, _, _, _, _, _, _, _, _, _, _, _, _, _, _, _, _, _, _, _, _, _, _, _, _, _, _, _, _, _, _, _, _, _, _, _, _, _, _, _, _, _, _, _, _, _, _, _, _, _, _, _, _, _, _, _, _, _, _, _, _, _, _, _, _, _, _, _, _, _, _, _, _, _, _, _], defers := _ } _
  refine wpAnyH_take (i := 5) (v := .slice a1 n1 c1) rfl (by kernel_rfl) (by kernel_rfl) (by kernel_rfl) (fun _ _ _ h => h) (Or.inl ⟨by rfl, ?_⟩) H ?_
  · intro w' hSw; go_simp
  change wpAnyH _ _ _ _ _ _ _ { tmps := #[_, _, _, _, _, _, _, _, _, _, _, _, _, _, _, _, _, _, _, _, _, _, _, _, _, _, _, _, _, _, _, _, _, _, _, _, _, _, _, _, _, _, _, _, _, _, _, _, _, _, _, _, _, _, _, _, _, _, _, _, _, _, _, _, _, _, _, _, _, _, _, _, _, _, _, _, _, _, _, _, _, _, _, _, _, _, _, _, _, _, _, _, _, _, _, _, _, _, _, _, _, _, _, _, _, _, _, _, _, _, _, _, _, _, _, _, _, _, _, _, _, _, _, _, _, _, _, _, _, _, _, _, _, _, _, _, _, _, _, _, _, _, _, _, _, _, _, _, _, _, _, _, _, _, _, _, _, _, _, _, _, _, _, _, _, _, _, _, _, _, _, _, _, _, _, _, _, _, _, _, _], defers := _ } _
  refine wpAnyH_take (i := 8) (v := .slice a1 n1 c1) rfl (by kernel_rfl) (by kernel_rfl) (by kernel_rfl) (fun _ _ _ h => h) (Or.inl ⟨by rfl, ?_⟩) H ?_
  · intro w' hSw; go_simp
  change wpAnyH _ _ _ _ _ _ _ { tmps := #[_, _, _, _, _, _, _, _, _, _, _, _, _, _, _, _, _, _, _, _, _, _, _, _, _, _, _, _, _, _, _, _, _, _, _, _, _, _, _, _, _, _, _, _, _, _, _, _, _, _, _, _, _, _, _, _, _, _, _, _, _, _, _, _, _, _, _, _, _, _, _, _, _, _, _, _, _, _, _, _, _, _, _, _, _, _, _, _, _, _, _, _, _, _, _, _, _, _, _, _, _, _, _, _, _, _, _, _, _, _, _, _, _, _, _, _, _, _, _, _, _, _, _, _, _, _, _, _, _, _, _, _, _, _, _, _, _, _, _, _, _, _, _, _, _, _, _, _, _, _, _, _, _, _, _, _, _, _, _, _, _, _, _, _, _, _, _, _, _, _, _, _, _, _, _, _, _, _, _, _, _], defers := _ } _
  refine wpAnyH_take (i := 9) (v := .slice a1 n1 c1) rfl (by kernel_rfl) (by kernel_rfl) (by kernel_rfl) (fun _ _ _ h => h) (Or.inl ⟨by rfl, ?_⟩) H ?_
  · intro w' hSw; go_simp
  change wpAnyH _ _ _ _ _ _ _ { tmps := #[_, _, _, _, _, _, _, _, _, _, _, _, _, _, _, _, _, _, _, _, _, _, _, _, _, _, _, _, _, _, _, _, _, _, _, _, _, _, _, _, _, _, _, _, _, _, _, _, _, _, _, _, _, _, _, _, _, _, _, _, _, _, _, _, _, _, _, _, _, _, _, _, _, _, _, _, _, _, _, _, _, _, _, _, _, _, _, _, _, _, _, _, _, _, _, _, _, _, _, _, _, _, _, _, _, _, _, _, _, _, _, _, _, _, _, _, _, _, _, _, _, _, _, _, _, _, _, _, _, _, _, _, _, _, _, _, _, _, _, _, _, _, _, _, _, _, _, _, _, _, _, _, _, _, _, _, _, _, _, _, _, _, _, _, _, _, _, _, _, _, _, _, _, _, _, _, _, _, _, _, _], defers := _ } _
  refine wpAnyH_take (i := 10) (v := .int .i64 (n1 : Int)) rfl (by kernel_rfl) (by kernel_rfl) (by kernel_rfl) (fun _ _ _ h => h) (Or.inl ⟨by rfl, ?_⟩) H ?_
  · intro w' hSw; go_simp
  change wpAnyH _ _ _ _ _ _ _ { tmps := #[_, _, _, _, _, _, _, _, _, _, _, _, _, _, _, _, _, _, _, _, _, _, _, _, _, _, _, _, _, _, _, _, _, _, _, _, _, _, _, _, _, _, _, _, _, _, _, _, _, _, _, _, _, _, _, _, _, _, _, _, _, _, _, _, _, _, _, _, _, _, _, _, _, _, _, _, _, _, _, _, _, _, _, _, _, _, _, _, _, _, _, _, _, _, _, _, _, _, _, _, _, _, _, _, _, _, _, _, _, _, _, _, _, _, _, _, _, _, _, _, _, _, _, _, _, _, _, _, _, _, _, _, _, _, _, _, _, _, _, _, _, _, _, _, _, _, _, _, _, _, _, _, _, _, _, _, _, _, _, _, _, _, _, _, _, _, _, _, _, _, _, _, _, _, _, _, _, _, _, _, _], defers := _ } _
  refine wpAnyH_take (i := 11) (v := .int .i64 (M : Int)) rfl (by kernel_rfl) (by kernel_rfl) (by kernel_rfl) (fun _ _ _ h => h) (Or.inl ⟨by rfl, ?_⟩) H ?_
  · intro w' hSw; have m1 := HM.out.1; have m2 := HM.out.2.1; have m3 := HM.out.2.2.1; have m4 := HM.out.2.2.2; clear hSw; go_simp
  change wpAnyH _ _ _ _ _ _ _ { tmps := #[_, _, _, _, _, _, _, _, _, _, _, _, _, _, _, _, _, _, _, _, _, _, _, _, _, _, _, _, _, _, _, _, _, _, _, _, _, _, _, _, _, _, _, _, _, _, _, _, _, _, _, _, _, _, _, _, _, _, _, _, _, _, _, _, _, _, _, _, _, _, _, _, _, _, _, _, _, _, _, _, _, _, _, _, _, _, _, _, _, _, _, _, _, _, _, _, _, _, _, _, _, _, _, _, _, _, _, _, _, _, _, _, _, _, _, _, _, _, _, _, _, _, _, _, _, _, _, _, _, _, _, _, _, _, _, _, _, _, _, _, _, _, _, _, _, _, _, _, _, _, _, _, _, _, _, _, _, _, _, _, _, _, _, _, _, _, _, _, _, _, _, _, _, _, _, _, _, _, _, _, _], defers := _ } _
  refine wpAnyH_take (i := 12) (v := .slice a1 M c1) rfl (by kernel_rfl) (by kernel_rfl) (by kernel_rfl) (fun _ _ _ h => h) (Or.inl ⟨by rfl, ?_⟩) H ?_
  · intro w' hSw; have CC := CT.out; go_simp
  change wpAnyH _ _ _ _ _ _ _ { tmps := #[_, _, _, _, _, _, _, _, _, _, _, _, _, _, _, _, _, _, _, _, _, _, _, _, _, _, _, _, _, _, _, _, _, _, _, _, _, _, _, _, _, _, _, _, _, _, _, _, _, _, _, _, _, _, _, _, _, _, _, _, _, _, _, _, _, _, _, _, _, _, _, _, _, _, _, _, _, _, _, _, _, _, _, _, _, _, _, _, _, _, _, _, _, _, _, _, _, _, _, _, _, _, _, _, _, _, _, _, _, _, _, _, _, _, _, _, _, _, _, _, _, _, _, _, _, _, _, _, _, _, _, _, _, _, _, _, _, _, _, _, _, _, _, _, _, _, _, _, _, _, _, _, _, _, _, _, _, _, _, _, _, _, _, _, _, _, _, _, _, _, _, _, _, _, _, _, _, _, _, _, _], defers := _ } _
  refine wpAnyH_ready (rs := [6, 15]) (by kernel_rfl) (by simp) ?_
  refine (AllReadyH.cons rfl (fun KK hK => ?_) (AllReadyH.cons rfl (fun KK hK => ?_) AllReadyH.nil))
  · skip
    go_simp
    refine (AT.out _ 1 3 (A2.out.trans (H.mono A2.out.size)) (by omega) (by omega) (by omega)).mono ?_
    rintro e y1 ⟨⟨r, hr3, rfl⟩, hb⟩
    replace H : Below v10.heap.size v10 y1 := H.trans (hb.mono H.size)
    clear hb
    refine hK.out _ _ H (fun _ => ?_)
    clear hK KK
    change wpAnyH _ _ _ _ _ _ _ { tmps := #[_, _, _, _, _, _, _, _, _, _, _, _, _, _, _, _, _, _, _, _, _, _, _, _, _, _, _, _, _, _, _, _, _, _, _, _, _, _, _, _, _, _, _, _, _, _, _, _, _, _, _, _, _, _, _, _, _, _, _, _, _, _, _, _, _, _, _, _, _, _, _, _, _, _, _, _, _, _, _, _, _, _, _, _, _, _, _, _, _, _, _, _, _, _, _, _, _, _, _, _, _, _, _, _, _, _, _, _, _, _, _, _, _, _, _, _, _, _, _, _, _, _, _, _, _, _, _, _, _, _, _, _, _, _, _, _, _, _, _, _, _, _, _, _, _, _, _, _, _, _, _, _, _, _, _, _, _, _, _, _, _, _, _, _, _, _, _, _, _, _, _, _, _, _, _, _, _, _, _, _, _], defers := _ } _
    refine wpAnyH_take (i := 7) (v := .int .i64 ((LG K).v + (r : Int))) rfl (by kernel_rfl) (by kernel_rfl) (by kernel_rfl) (fun _ _ _ h => h) (Or.inl ⟨by rfl, ?_⟩) H ?_
    · intro w' hSw; have qw : IntKind.i64.wrap ((LG K).v + (r : Int)) = (LG K).v + (r : Int) := IntWalk.i64_in _ (by omega); clear hSw; go_simp
    change wpAnyH _ _ _ _ _ _ _ { tmps := #[_, _, _, _, _, _, _, _, _, _, _, _, _, _, _, _, _, _, _, _, _, _, _, _, _, _, _, _, _, _, _, _, _, _, _, _, _, _, _, _, _, _, _, _, _, _, _, _, _, _, _, _, _, _, _, _, _, _, _, _, _, _, _, _, _, _, _, _, _, _, _, _, _, _, _, _, _, _, _, _, _, _, _, _, _, _, _, _, _, _, _, _, _, _, _, _, _, _, _, _, _, _, _, _, _, _, _, _, _, _, _, _, _, _, _, _, _, _, _, _, _, _, _, _, _, _, _, _, _, _, _, _, _, _, _, _, _, _, _, _, _, _, _, _, _, _, _, _, _, _, _, _, _, _, _, _, _, _, _, _, _, _, _, _, _, _, _, _, _, _, _, _, _, _, _, _, _, _, _, _, _], defers := _ } _
    refine wpAnyH_ready (rs := [13, 15]) (by kernel_rfl) (by simp) ?_
    refine (AllReadyH.cons rfl (fun KK hK => ?_) (AllReadyH.cons rfl (fun KK hK => ?_) AllReadyH.nil))
    · skip
      go_simp
      refine (SH.out _ (A2.out.trans (H.mono A2.out.size))).mono ?_
      rintro e y2 ⟨⟨hh, h32, rfl⟩, hb⟩
      replace H : Below v10.heap.size v10 y2 := H.trans (hb.mono H.size)
      clear hb
      refine hK.out _ _ H (fun _ => ?_)
      clear hK KK
      change wpAnyH _ _ _ _ _ _ _ { tmps := #[_, _, _, _, _, _, _, _, _, _, _, _, _, _, _, _, _, _, _, _, _, _, _, _, _, _, _, _, _, _, _, _, _, _, _, _, _, _, _, _, _, _, _, _, _, _, _, _, _, _, _, _, _, _, _, _, _, _, _, _, _, _, _, _, _, _, _, _, _, _, _, _, _, _, _, _, _, _, _, _, _, _, _, _, _, _, _, _, _, _, _, _, _, _, _, _, _, _, _, _, _, _, _, _, _, _, _, _, _, _, _, _, _, _, _, _, _, _, _, _, _, _, _, _, _, _, _, _, _, _, _, _, _, _, _, _, _, _, _, _, _, _, _, _, _, _, _, _, _, _, _, _, _, _, _, _, _, _, _, _, _, _, _, _, _, _, _, _, _, _, _, _, _, _, _, _, _, _, _, _, _], defers := _ } _
      refine wpAnyH_take (i := 14) (v := .agg #[.int .i64 ((LG K).v + (r : Int)), .string hh]) rfl (by kernel_rfl) (by kernel_rfl) (by kernel_rfl) (fun _ _ _ h => h) (Or.inl ⟨by rfl, ?_⟩) H ?_
      · intro w' hSw; go_simp
      change wpAnyH _ _ _ _ _ _ _ { tmps := #[_, _, _, _, _, _, _, _, _, _, _, _, _, _, _, _, _, _, _, _, _, _, _, _, _, _, _, _, _, _, _, _, _, _, _, _, _, _, _, _, _, _, _, _, _, _, _, _, _, _, _, _, _, _, _, _, _, _, _, _, _, _, _, _, _, _, _, _, _, _, _, _, _, _, _, _, _, _, _, _, _, _, _, _, _, _, _, _, _, _, _, _, _, _, _, _, _, _, _, _, _, _, _, _, _, _, _, _, _, _, _, _, _, _, _, _, _, _, _, _, _, _, _, _, _, _, _, _, _, _, _, _, _, _, _, _, _, _, _, _, _, _, _, _, _, _, _, _, _, _, _, _, _, _, _, _, _, _, _, _, _, _, _, _, _, _, _, _, _, _, _, _, _, _, _, _, _, _, _, _, _], defers := _ } _
      refine wpAnyH_ready (rs := [15]) (by kernel_rfl) (by simp) ?_
      refine (AllReadyH.cons rfl (fun KK hK => ?_) AllReadyH.nil)
      go_simp
      have hb : Below y2.heap.size y2 (y2.alloc (.cells #[.int .i64 0, .string ⟨#[]⟩] 26)) := (Below.refl _ _).alloc (Nat.le_refl _) _
      have BX : Hid (Box2 (y2.alloc (.cells #[.int .i64 0, .string ⟨#[]⟩] 26)) y2.heap.size 26 (.int .i64 0) (.string ⟨#[]⟩)) := Box2.madeAt rfl _ _ _
      have Lxb : Hid (v10.heap.size ≤ y2.heap.size) := H.size
      replace H : Below v10.heap.size v10 (y2.alloc (.cells #[.int .i64 0, .string ⟨#[]⟩] 26)) := H.trans (hb.mono H.size)
      clear hb
      refine hK.out _ _ H (fun _ => ?_)
      clear hK KK
      generalize (y2.alloc (.cells #[.int .i64 0, .string ⟨#[]⟩] 26)) = y3 at *
      generalize y2.heap.size = xb at *
      change wpAnyH _ _ _ _ _ _ _ { tmps := #[_, _, _, _, _, _, _, _, _, _, _, _, _, _, _, _, _, _, _, _, _, _, _, _, _, _, _, _, _, _, _, _, _, _, _, _, _, _, _, _, _, _, _, _, _, _, _, _, _, _, _, _, _, _, _, _, _, _, _, _, _, _, _, _, _, _, _, _, _, _, _, _, _, _, _, _, _, _, _, _, _, _, _, _, _, _, _, _, _, _, _, _, _, _, _, _, _, _, _, _, _, _, _, _, _, _, _, _, _, _, _, _, _, _, _, _, _, _, _, _, _, _, _, _, _, _, _, _, _, _, _, _, _, _, _, _, _, _, _, _, _, _, _, _, _, _, _, _, _, _, _, _, _, _, _, _, _, _, _, _, _, _, _, _, _, _, _, _, _, _, _, _, _, _, _, _, _, _, _, _, _], defers := _ } _
      refine wpAnyH_ready (rs := [16]) (by kernel_rfl) (by simp) ?_
      refine (AllReadyH.cons rfl (fun KK hK => ?_) AllReadyH.nil)
      have k0 := BX.out.c0
      have k1 := BX.out.c1
      have z0 := BX.out.fr 0
      have z1 := BX.out.fr 1
      go_simp
      replace H : Below v10.heap.size v10 ((y3.setCell ⟨xb, 0, none⟩ (.int .i64 ((LG K).v + (r : Int)))).setCell ⟨xb, 1, none⟩ (.string hh)) := (H.setCell Lxb.out _).setCell Lxb.out _
      refine hK.out _ _ H (fun _ => ?_)
      clear hK KK
      change wpAnyH _ _ _ _ _ _ _ { tmps := #[_, _, _, _, _, _, _, _, _, _, _, _, _, _, _, _, _, _, _, _, _, _, _, _, _, _, _, _, _, _, _, _, _, _, _, _, _, _, _, _, _, _, _, _, _, _, _, _, _, _, _, _, _, _, _, _, _, _, _, _, _, _, _, _, _, _, _, _, _, _, _, _, _, _, _, _, _, _, _, _, _, _, _, _, _, _, _, _, _, _, _, _, _, _, _, _, _, _, _, _, _, _, _, _, _, _, _, _, _, _, _, _, _, _, _, _, _, _, _, _, _, _, _, _, _, _, _, _, _, _, _, _, _, _, _, _, _, _, _, _, _, _, _, _, _, _, _, _, _, _, _, _, _, _, _, _, _, _, _, _, _, _, _, _, _, _, _, _, _, _, _, _, _, _, _, _, _, _, _, _, _], defers := _ } _
      refine wpAnyH_done (by kernel_rfl) ?_ _
      refine NoPanic.normal ?_
      have BX2 : Hid (Box2 ((y3.setCell ⟨xb, 0, none⟩ (.int .i64 ((LG K).v + (r : Int)))).setCell ⟨xb, 1, none⟩ (.string hh)) xb 26 (.int .i64 ((LG K).v + (r : Int))) (.string hh)) := (BX.out.set0 _).set1 _
      clear k0 k1 z0 z1
      have NB : Hid (Below v10.heap.size v10 ((y3.setCell ⟨xb, 0, none⟩ (.int .i64 ((LG K).v + (r : Int)))).setCell ⟨xb, 1, none⟩ (.string hh))) := H
      have X3 : Hid (r < 3 ∧ hh.size = 32) := ⟨hr3, h32⟩
      generalize ((y3.setCell ⟨xb, 0, none⟩ (.int .i64 ((LG K).v + (r : Int)))).setCell ⟨xb, 1, none⟩ (.string hh)) = w12 at *
      clear H BX Lxb h32 hr3
      have hb : Below v10.heap.size v10 w12 := NB.out
      replace A1 : Hid (Below w.heap.size w w12) := A2.out.trans (hb.mono A2.out.size)
      replace HE : Hid (Els w12 2 (some ⟨b, off, none⟩) n (lfF LG)) := HE.out.below hb
      replace SG : Hid (Strs w12 ga N EL) := SG.out.below hb
      clear hb NB A2 LC AT SH CT HM
      obtain ⟨X, hX⟩ : ∃ X : Lf, X = ⟨(LG K).v + (r : Int), hh⟩ := ⟨_, rfl⟩
      have XO : Hid (X.Ok ∧ (LG K).v ≤ X.v) := by
        have := X3.out
        rw [hX]
        exact ⟨⟨⟨by dsimp only; omega, by dsimp only; omega⟩, this.2⟩, by dsimp only; omega⟩
      have ev : (LG K).v + (r : Int) = X.v := by rw [hX]
      have eh : hh = X.h := by rw [hX]
      rw [ev, eh] at BX2
      clear ev eh hX X3 hv0 hv8
      have t0 := BX2.out.c0
      have t1 := BX2.out.c1
      go_wp2_with fail
      clear t0 t1
      refine (CL.out _ _ X _ XO.out.1 XO.out.2 HE.out).mono ?_
      rintro e v51 ⟨⟨p2, q2, c2, rfl, he2, hc2, hc3⟩, hb⟩
      replace A1 : Hid (Below w.heap.size w v51) := A1.out.trans (hb.mono A1.out.size)
      replace HE : Hid (Els v51 2 (some ⟨b, off, none⟩) n (lfF LG)) := HE.out.below hb
      replace SG : Hid (Strs v51 ga N EL) := SG.out.below hb
      replace BX2 : Hid (Box2 v51 xb 26 (.int .i64 X.v) (.string X.h)) := BX2.out.below hb
      have E2 : Hid (Els v51 2 (some ⟨p2, q2, none⟩) n (lfF (updE LG K X))) := he2
      have HC2 : Hid (n ≤ c2 ∧ c2 ≤ maxLen) := ⟨hc2, hc3⟩
      clear hb he2 hc2 hc3 CL
      clear HE
      go_wp2_with fail
      refine (L2.out _ _ _ X _ XO.out.1 HC2.out.1 HC2.out.2 E2.out (TW.out.below A1.out)).mono ?_
      rintro e v52 ⟨rfl, hb⟩
      replace A1 : Hid (Below w.heap.size w v52) := A1.out.trans (hb.mono A1.out.size)
      replace SG : Hid (Strs v52 ga N EL) := SG.out.below hb
      replace BX2 : Hid (Box2 v52 xb 26 (.int .i64 X.v) (.string X.h)) := BX2.out.below hb
      replace E2 : Hid (Els v52 2 (some ⟨p2, q2, none⟩) n (lfF (updE LG K X))) := E2.out.below hb
      clear hb L2
      clear E2
      obtain ⟨R2, hR2⟩ : ∃ R2, treeT (updE LG K X) 0 n = R2 := ⟨_, rfl⟩
      rw [hR2]
      have HR2 : Hid _ := hR2
      clear hR2
      have t0 := BX2.out.c0
      have t1 := BX2.out.c1
      go_wp2_with fail
      clear t0 t1
      refine (RF.out X _ _ R2 _ XO.out.1 HR2.out SG.out (TW.out.below A1.out)).mono ?_
      rintro e v53 ⟨rfl, hb⟩
      replace A1 : Hid (Below w.heap.size w v53) := A1.out.trans (hb.mono A1.out.size)
      replace SG : Hid (Strs v53 ga N EL) := SG.out.below hb
      replace BX2 : Hid (Box2 v53 xb 26 (.int .i64 X.v) (.string X.h)) := BX2.out.below hb
      clear hb RF
      clear SG BX2
      go_wp2_with fail
      refine (BI.out _ (TW.out.below A1.out)).mono ?_
      rintro e v54 ⟨rfl, hb⟩
      replace A1 : Hid (Below w.heap.size w v54) := A1.out.trans (hb.mono A1.out.size)
      clear hb BI
      go_wp2_with fail
      refine (BS.out _).mono ?_
      rintro e v55 ⟨rfl, hb⟩
      replace A1 : Hid (Below w.heap.size w v55) := A1.out.trans (hb.mono A1.out.size)
      clear hb BS
      clear XO HR2 HC2 KX SK TW HLs
      go_wp2
      go_ret
      exact ⟨rfl, A1.out⟩
    · skip
      go_simp
      have hb : Below y1.heap.size y1 (y1.alloc (.cells #[.int .i64 0, .string ⟨#[]⟩] 26)) := (Below.refl _ _).alloc (Nat.le_refl _) _
      have BX : Hid (Box2 (y1.alloc (.cells #[.int .i64 0, .string ⟨#[]⟩] 26)) y1.heap.size 26 (.int .i64 0) (.string ⟨#[]⟩)) := Box2.madeAt rfl _ _ _
      have Lxb : Hid (v10.heap.size ≤ y1.heap.size) := H.size
      replace H : Below v10.heap.size v10 (y1.alloc (.cells #[.int .i64 0, .string ⟨#[]⟩] 26)) := H.trans (hb.mono H.size)
      clear hb
      refine hK.out _ _ H (fun _ => ?_)
      clear hK KK
      generalize (y1.alloc (.cells #[.int .i64 0, .string ⟨#[]⟩] 26)) = y2 at *
      generalize y1.heap.size = xb at *
      change wpAnyH _ _ _ _ _ _ _ { tmps := #[_, _, _, _, _, _, _, _, _, _, _, _, _, _, _, _, _, _, _, _, _, _, _, _, _, _, _, _, _, _, _, _, _, _, _, _, _, _, _, _, _, _, _, _, _, _, _, _, _, _, _, _, _, _, _, _, _, _, _, _, _, _, _, _, _, _, _, _, _, _, _, _, _, _, _, _, _, _, _, _, _, _, _, _, _, _, _, _, _, _, _, _, _, _, _, _, _, _, _, _, _, _, _, _, _, _, _, _, _, _, _, _, _, _, _, _, _, _, _, _, _, _, _, _, _, _, _, _, _, _, _, _, _, _, _, _, _, _, _, _, _, _, _, _, _, _, _, _, _, _, _, _, _, _, _, _, _, _, _, _, _, _, _, _, _, _, _, _, _, _, _, _, _, _, _, _, _, _, _, _, _], defers := _ } _
      refine wpAnyH_ready (rs := [13]) (by kernel_rfl) (by simp) ?_
      refine (AllReadyH.cons rfl (fun KK hK => ?_) AllReadyH.nil)
      go_simp
      refine (SH.out _ (A2.out.trans (H.mono A2.out.size))).mono ?_
      rintro e y3 ⟨⟨hh, h32, rfl⟩, hb⟩
      replace BX : Hid (Box2 y3 xb 26 (.int .i64 0) (.string ⟨#[]⟩)) := BX.out.below hb
      replace H : Below v10.heap.size v10 y3 := H.trans (hb.mono H.size)
      clear hb
      refine hK.out _ _ H (fun _ => ?_)
      clear hK KK
      change wpAnyH _ _ _ _ _ _ _ { tmps := #[_, _, _, _, _, _, _, _, _, _, _, _, _, _, _, _, _, _, _, _, _, _, _, _, _, _, _, _, _, _, _, _, _, _, _, _, _, _, _, _, _, _, _, _, _, _, _, _, _, _, _, _, _, _, _, _, _, _, _, _, _, _, _, _, _, _, _, _, _, _, _, _, _, _, _, _, _, _, _, _, _, _, _, _, _, _, _, _, _, _, _, _, _, _, _, _, _, _, _, _, _, _, _, _, _, _, _, _, _, _, _, _, _, _, _, _, _, _, _, _, _, _, _, _, _, _, _, _, _, _, _, _, _, _, _, _, _, _, _, _, _, _, _, _, _, _, _, _, _, _, _, _, _, _, _, _, _, _, _, _, _, _, _, _, _, _, _, _, _, _, _, _, _, _, _, _, _, _, _, _, _], defers := _ } _
      refine wpAnyH_take (i := 14) (v := .agg #[.int .i64 ((LG K).v + (r : Int)), .string hh]) rfl (by kernel_rfl) (by kernel_rfl) (by kernel_rfl) (fun _ _ _ h => h) (Or.inl ⟨by rfl, ?_⟩) H ?_
      · intro w' hSw; go_simp
      change wpAnyH _ _ _ _ _ _ _ { tmps := #[_, _, _, _, _, _, _, _, _, _, _, _, _, _, _, _, _, _, _, _, _, _, _, _, _, _, _, _, _, _, _, _, _, _, _, _, _, _, _, _, _, _, _, _, _, _, _, _, _, _, _, _, _, _, _, _, _, _, _, _, _, _, _, _, _, _, _, _, _, _, _, _, _, _, _, _, _, _, _, _, _, _, _, _, _, _, _, _, _, _, _, _, _, _, _, _, _, _, _, _, _, _, _, _, _, _, _, _, _, _, _, _, _, _, _, _, _, _, _, _, _, _, _, _, _, _, _, _, _, _, _, _, _, _, _, _, _, _, _, _, _, _, _, _, _, _, _, _, _, _, _, _, _, _, _, _, _, _, _, _, _, _, _, _, _, _, _, _, _, _, _, _, _, _, _, _, _, _, _, _, _], defers := _ } _
      refine wpAnyH_ready (rs := [16]) (by kernel_rfl) (by simp) ?_
      refine (AllReadyH.cons rfl (fun KK hK => ?_) AllReadyH.nil)
      have k0 := BX.out.c0
      have k1 := BX.out.c1
      have z0 := BX.out.fr 0
      have z1 := BX.out.fr 1
      go_simp
      replace H : Below v10.heap.size v10 ((y3.setCell ⟨xb, 0, none⟩ (.int .i64 ((LG K).v + (r : Int)))).setCell ⟨xb, 1, none⟩ (.string hh)) := (H.setCell Lxb.out _).setCell Lxb.out _
      refine hK.out _ _ H (fun _ => ?_)
      clear hK KK
      change wpAnyH _ _ _ _ _ _ _ { tmps := #[_, _, _, _, _, _, _, _, _, _, _, _, _, _, _, _, _, _, _, _, _, _, _, _, _, _, _, _, _, _, _, _, _, _, _, _, _, _, _, _, _, _, _, _, _, _, _, _, _, _, _, _, _, _, _, _, _, _, _, _, _, _, _, _, _, _, _, _, _, _, _, _, _, _, _, _, _, _, _, _, _, _, _, _, _, _, _, _, _, _, _, _, _, _, _, _, _, _, _, _, _, _, _, _, _, _, _, _, _, _, _, _, _, _, _, _, _, _, _, _, _, _, _, _, _, _, _, _, _, _, _, _, _, _, _, _, _, _, _, _, _, _, _, _, _, _, _, _, _, _, _, _, _, _, _, _, _, _, _, _, _, _, _, _, _, _, _, _, _, _, _, _, _, _, _, _, _, _, _, _, _], defers := _ } _
      refine wpAnyH_done (by kernel_rfl) ?_ _
      refine NoPanic.normal ?_
      have BX2 : Hid (Box2 ((y3.setCell ⟨xb, 0, none⟩ (.int .i64 ((LG K).v + (r : Int)))).setCell ⟨xb, 1, none⟩ (.string hh)) xb 26 (.int .i64 ((LG K).v + (r : Int))) (.string hh)) := (BX.out.set0 _).set1 _
      clear k0 k1 z0 z1
      have NB : Hid (Below v10.heap.size v10 ((y3.setCell ⟨xb, 0, none⟩ (.int .i64 ((LG K).v + (r : Int)))).setCell ⟨xb, 1, none⟩ (.string hh))) := H
      have X3 : Hid (r < 3 ∧ hh.size = 32) := ⟨hr3, h32⟩
      generalize ((y3.setCell ⟨xb, 0, none⟩ (.int .i64 ((LG K).v + (r : Int)))).setCell ⟨xb, 1, none⟩ (.string hh)) = w12 at *
      clear H BX Lxb h32 hr3
      have hb : Below v10.heap.size v10 w12 := NB.out
      replace A1 : Hid (Below w.heap.size w w12) := A2.out.trans (hb.mono A2.out.size)
      replace HE : Hid (Els w12 2 (some ⟨b, off, none⟩) n (lfF LG)) := HE.out.below hb
      replace SG : Hid (Strs w12 ga N EL) := SG.out.below hb
      clear hb NB A2 LC AT SH CT HM
      obtain ⟨X, hX⟩ : ∃ X : Lf, X = ⟨(LG K).v + (r : Int), hh⟩ := ⟨_, rfl⟩
      have XO : Hid (X.Ok ∧ (LG K).v ≤ X.v) := by
        have := X3.out
        rw [hX]
        exact ⟨⟨⟨by dsimp only; omega, by dsimp only; omega⟩, this.2⟩, by dsimp only; omega⟩
      have ev : (LG K).v + (r : Int) = X.v := by rw [hX]
      have eh : hh = X.h := by rw [hX]
      rw [ev, eh] at BX2
      clear ev eh hX X3 hv0 hv8
      have t0 := BX2.out.c0
      have t1 := BX2.out.c1
      go_wp2_with fail
      clear t0 t1
      refine (CL.out _ _ X _ XO.out.1 XO.out.2 HE.out).mono ?_
      rintro e v51 ⟨⟨p2, q2, c2, rfl, he2, hc2, hc3⟩, hb⟩
      replace A1 : Hid (Below w.heap.size w v51) := A1.out.trans (hb.mono A1.out.size)
      replace HE : Hid (Els v51 2 (some ⟨b, off, none⟩) n (lfF LG)) := HE.out.below hb
      replace SG : Hid (Strs v51 ga N EL) := SG.out.below hb
      replace BX2 : Hid (Box2 v51 xb 26 (.int .i64 X.v) (.string X.h)) := BX2.out.below hb
      have E2 : Hid (Els v51 2 (some ⟨p2, q2, none⟩) n (lfF (updE LG K X))) := he2
      have HC2 : Hid (n ≤ c2 ∧ c2 ≤ maxLen) := ⟨hc2, hc3⟩
      clear hb he2 hc2 hc3 CL
      clear HE
      go_wp2_with fail
      refine (L2.out _ _ _ X _ XO.out.1 HC2.out.1 HC2.out.2 E2.out (TW.out.below A1.out)).mono ?_
      rintro e v52 ⟨rfl, hb⟩
      replace A1 : Hid (Below w.heap.size w v52) := A1.out.trans (hb.mono A1.out.size)
      replace SG : Hid (Strs v52 ga N EL) := SG.out.below hb
      replace BX2 : Hid (Box2 v52 xb 26 (.int .i64 X.v) (.string X.h)) := BX2.out.below hb
      replace E2 : Hid (Els v52 2 (some ⟨p2, q2, none⟩) n (lfF (updE LG K X))) := E2.out.below hb
      clear hb L2
      clear E2
      obtain ⟨R2, hR2⟩ : ∃ R2, treeT (updE LG K X) 0 n = R2 := ⟨_, rfl⟩
      rw [hR2]
      have HR2 : Hid _ := hR2
      clear hR2
      have t0 := BX2.out.c0
      have t1 := BX2.out.c1
      go_wp2_with fail
      clear t0 t1
      refine (RF.out X _ _ R2 _ XO.out.1 HR2.out SG.out (TW.out.below A1.out)).mono ?_
      rintro e v53 ⟨rfl, hb⟩
      replace A1 : Hid (Below w.heap.size w v53) := A1.out.trans (hb.mono A1.out.size)
      replace SG : Hid (Strs v53 ga N EL) := SG.out.below hb
      replace BX2 : Hid (Box2 v53 xb 26 (.int .i64 X.v) (.string X.h)) := BX2.out.below hb
      clear hb RF
      clear SG BX2
      go_wp2_with fail
      refine (BI.out _ (TW.out.below A1.out)).mono ?_
      rintro e v54 ⟨rfl, hb⟩
      replace A1 : Hid (Below w.heap.size w v54) := A1.out.trans (hb.mono A1.out.size)
      clear hb BI
      go_wp2_with fail
      refine (BS.out _).mono ?_
      rintro e v55 ⟨rfl, hb⟩
      replace A1 : Hid (Below w.heap.size w v55) := A1.out.trans (hb.mono A1.out.size)
      clear hb BS
      clear XO HR2 HC2 KX SK TW HLs
      go_wp2
      go_ret
      exact ⟨rfl, A1.out⟩
  · skip
    go_simp
    have hb : Below y0.heap.size y0 (y0.alloc (.cells #[.int .i64 0, .string ⟨#[]⟩] 26)) := (Below.refl _ _).alloc (Nat.le_refl _) _
    have BX : Hid (Box2 (y0.alloc (.cells #[.int .i64 0, .string ⟨#[]⟩] 26)) y0.heap.size 26 (.int .i64 0) (.string ⟨#[]⟩)) := Box2.madeAt rfl _ _ _
    have Lxb : Hid (v10.heap.size ≤ y0.heap.size) := H.size
    replace H : Below v10.heap.size v10 (y0.alloc (.cells #[.int .i64 0, .string ⟨#[]⟩] 26)) := H.trans (hb.mono H.size)
    clear hb
    refine hK.out _ _ H (fun _ => ?_)
    clear hK KK
    generalize (y0.alloc (.cells #[.int .i64 0, .string ⟨#[]⟩] 26)) = y1 at *
    generalize y0.heap.size = xb at *
    change wpAnyH _ _ _ _ _ _ _ { tmps := #[_, _, _, _, _, _, _, _, _, _, _, _, _, _, _, _, _, _, _, _, _, _, _, _, _, _, _, _, _, _, _, _, _, _, _, _, _, _, _, _, _, _, _, _, _, _, _, _, _, _, _, _, _, _, _, _, _, _, _, _, _, _, _, _, _, _, _, _, _, _, _, _, _, _, _, _, _, _, _, _, _, _, _, _, _, _, _, _, _, _, _, _, _, _, _, _, _, _, _, _, _, _, _, _, _, _, _, _, _, _, _, _, _, _, _, _, _, _, _, _, _, _, _, _, _, _, _, _, _, _, _, _, _, _, _, _, _, _, _, _, _, _, _, _, _, _, _, _, _, _, _, _, _, _, _, _, _, _, _, _, _, _, _, _, _, _, _, _, _, _, _, _, _, _, _, _, _, _, _, _, _], defers := _ } _
    refine wpAnyH_ready (rs := [6]) (by kernel_rfl) (by simp) ?_
    refine (AllReadyH.cons rfl (fun KK hK => ?_) AllReadyH.nil)
    go_simp
    refine (AT.out _ 1 3 (A2.out.trans (H.mono A2.out.size)) (by omega) (by omega) (by omega)).mono ?_
    rintro e y2 ⟨⟨r, hr3, rfl⟩, hb⟩
    replace BX : Hid (Box2 y2 xb 26 (.int .i64 0) (.string ⟨#[]⟩)) := BX.out.below hb
    replace H : Below v10.heap.size v10 y2 := H.trans (hb.mono H.size)
    clear hb
    refine hK.out _ _ H (fun _ => ?_)
    clear hK KK
    change wpAnyH _ _ _ _ _ _ _ { tmps := #[_, _, _, _, _, _, _, _, _, _, _, _, _, _, _, _, _, _, _, _, _, _, _, _, _, _, _, _, _, _, _, _, _, _, _, _, _, _, _, _, _, _, _, _, _, _, _, _, _, _, _, _, _, _, _, _, _, _, _, _, _, _, _, _, _, _, _, _, _, _, _, _, _, _, _, _, _, _, _, _, _, _, _, _, _, _, _, _, _, _, _, _, _, _, _, _, _, _, _, _, _, _, _, _, _, _, _, _, _, _, _, _, _, _, _, _, _, _, _, _, _, _, _, _, _, _, _, _, _, _, _, _, _, _, _, _, _, _, _, _, _, _, _, _, _, _, _, _, _, _, _, _, _, _, _, _, _, _, _, _, _, _, _, _, _, _, _, _, _, _, _, _, _, _, _, _, _, _, _, _, _], defers := _ } _
    refine wpAnyH_take (i := 7) (v := .int .i64 ((LG K).v + (r : Int))) rfl (by kernel_rfl) (by kernel_rfl) (by kernel_rfl) (fun _ _ _ h => h) (Or.inl ⟨by rfl, ?_⟩) H ?_
    · intro w' hSw; have qw : IntKind.i64.wrap ((LG K).v + (r : Int)) = (LG K).v + (r : Int) := IntWalk.i64_in _ (by omega); clear hSw; go_simp
    change wpAnyH _ _ _ _ _ _ _ { tmps := #[_, _, _, _, _, _, _, _, _, _, _, _, _, _, _, _, _, _, _, _, _, _, _, _, _, _, _, _, _, _, _, _, _, _, _, _, _, _, _, _, _, _, _, _, _, _, _, _, _, _, _, _, _, _, _, _, _, _, _, _, _, _, _, _, _, _, _, _, _, _, _, _, _, _, _, _, _, _, _, _, _, _, _, _, _, _, _, _, _, _, _, _, _, _, _, _, _, _, _, _, _, _, _, _, _, _, _, _, _, _, _, _, _, _, _, _, _, _, _, _, _, _, _, _, _, _, _, _, _, _, _, _, _, _, _, _, _, _, _, _, _, _, _, _, _, _, _, _, _, _, _, _, _, _, _, _, _, _, _, _, _, _, _, _, _, _, _, _, _, _, _, _, _, _, _, _, _, _, _, _, _], defers := _ } _
    refine wpAnyH_ready (rs := [13]) (by kernel_rfl) (by simp) ?_
    refine (AllReadyH.cons rfl (fun KK hK => ?_) AllReadyH.nil)
    go_simp
    refine (SH.out _ (A2.out.trans (H.mono A2.out.size))).mono ?_
    rintro e y3 ⟨⟨hh, h32, rfl⟩, hb⟩
    replace BX : Hid (Box2 y3 xb 26 (.int .i64 0) (.string ⟨#[]⟩)) := BX.out.below hb
    replace H : Below v10.heap.size v10 y3 := H.trans (hb.mono H.size)
    clear hb
    refine hK.out _ _ H (fun _ => ?_)
    clear hK KK
    change wpAnyH _ _ _ _ _ _ _ { tmps := #[_, _, _, _, _, _, _, _, _, _, _, _, _, _, _, _, _, _, _, _, _, _, _, _, _, _, _, _, _, _, _, _, _, _, _, _, _, _, _, _, _, _, _, _, _, _, _, _, _, _, _, _, _, _, _, _, _, _, _, _, _, _, _, _, _, _, _, _, _, _, _, _, _, _, _, _, _, _, _, _, _, _, _, _, _, _, _, _, _, _, _, _, _, _, _, _, _, _, _, _, _, _, _, _, _, _, _, _, _, _, _, _, _, _, _, _, _, _, _, _, _, _, _, _, _, _, _, _, _, _, _, _, _, _, _, _, _, _, _, _, _, _, _, _, _, _, _, _, _, _, _, _, _, _, _, _, _, _, _, _, _, _, _, _, _, _, _, _, _, _, _, _, _, _, _, _, _, _, _, _, _], defers := _ } _
    refine wpAnyH_take (i := 14) (v := .agg #[.int .i64 ((LG K).v + (r : Int)), .string hh]) rfl (by kernel_rfl) (by kernel_rfl) (by kernel_rfl) (fun _ _ _ h => h) (Or.inl ⟨by rfl, ?_⟩) H ?_
    · intro w' hSw; go_simp
    change wpAnyH _ _ _ _ _ _ _ { tmps := #[_, _, _, _, _, _, _, _, _, _, _, _, _, _, _, _, _, _, _, _, _, _, _, _, _, _, _, _, _, _, _, _, _, _, _, _, _, _, _, _, _, _, _, _, _, _, _, _, _, _, _, _, _, _, _, _, _, _, _, _, _, _, _, _, _, _, _, _, _, _, _, _, _, _, _, _, _, _, _, _, _, _, _, _, _, _, _, _, _, _, _, _, _, _, _, _, _, _, _, _, _, _, _, _, _, _, _, _, _, _, _, _, _, _, _, _, _, _, _, _, _, _, _, _, _, _, _, _, _, _, _, _, _, _, _, _, _, _, _, _, _, _, _, _, _, _, _, _, _, _, _, _, _, _, _, _, _, _, _, _, _, _, _, _, _, _, _, _, _, _, _, _, _, _, _, _, _, _, _, _, _], defers := _ } _
    refine wpAnyH_ready (rs := [16]) (by kernel_rfl) (by simp) ?_
    refine (AllReadyH.cons rfl (fun KK hK => ?_) AllReadyH.nil)
    have k0 := BX.out.c0
    have k1 := BX.out.c1
    have z0 := BX.out.fr 0
    have z1 := BX.out.fr 1
    go_simp
    replace H : Below v10.heap.size v10 ((y3.setCell ⟨xb, 0, none⟩ (.int .i64 ((LG K).v + (r : Int)))).setCell ⟨xb, 1, none⟩ (.string hh)) := (H.setCell Lxb.out _).setCell Lxb.out _
    refine hK.out _ _ H (fun _ => ?_)
    clear hK KK
    change wpAnyH _ _ _ _ _ _ _ { tmps := #[_, _, _, _, _, _, _, _, _, _, _, _, _, _, _, _, _, _, _, _, _, _, _, _, _, _, _, _, _, _, _, _, _, _, _, _, _, _, _, _, _, _, _, _, _, _, _, _, _, _, _, _, _, _, _, _, _, _, _, _, _, _, _, _, _, _, _, _, _, _, _, _, _, _, _, _, _, _, _, _, _, _, _, _, _, _, _, _, _, _, _, _, _, _, _, _, _, _, _, _, _, _, _, _, _, _, _, _, _, _, _, _, _, _, _, _, _, _, _, _, _, _, _, _, _, _, _, _, _, _, _, _, _, _, _, _, _, _, _, _, _, _, _, _, _, _, _, _, _, _, _, _, _, _, _, _, _, _, _, _, _, _, _, _, _, _, _, _, _, _, _, _, _, _, _, _, _, _, _, _, _], defers := _ } _
    refine wpAnyH_done (by kernel_rfl) ?_ _
    refine NoPanic.normal ?_
    have BX2 : Hid (Box2 ((y3.setCell ⟨xb, 0, none⟩ (.int .i64 ((LG K).v + (r : Int)))).setCell ⟨xb, 1, none⟩ (.string hh)) xb 26 (.int .i64 ((LG K).v + (r : Int))) (.string hh)) := (BX.out.set0 _).set1 _
    clear k0 k1 z0 z1
    have NB : Hid (Below v10.heap.size v10 ((y3.setCell ⟨xb, 0, none⟩ (.int .i64 ((LG K).v + (r : Int)))).setCell ⟨xb, 1, none⟩ (.string hh))) := H
    have X3 : Hid (r < 3 ∧ hh.size = 32) := ⟨hr3, h32⟩
    generalize ((y3.setCell ⟨xb, 0, none⟩ (.int .i64 ((LG K).v + (r : Int)))).setCell ⟨xb, 1, none⟩ (.string hh)) = w12 at *
    clear H BX Lxb h32 hr3
    have hb : Below v10.heap.size v10 w12 := NB.out
    replace A1 : Hid (Below w.heap.size w w12) := A2.out.trans (hb.mono A2.out.size)
    replace HE : Hid (Els w12 2 (some ⟨b, off, none⟩) n (lfF LG)) := HE.out.below hb
    replace SG : Hid (Strs w12 ga N EL) := SG.out.below hb
    clear hb NB A2 LC AT SH CT HM
    obtain ⟨X, hX⟩ : ∃ X : Lf, X = ⟨(LG K).v + (r : Int), hh⟩ := ⟨_, rfl⟩
    have XO : Hid (X.Ok ∧ (LG K).v ≤ X.v) := by
      have := X3.out
      rw [hX]
      exact ⟨⟨⟨by dsimp only; omega, by dsimp only; omega⟩, this.2⟩, by dsimp only; omega⟩
    have ev : (LG K).v + (r : Int) = X.v := by rw [hX]
    have eh : hh = X.h := by rw [hX]
    rw [ev, eh] at BX2
    clear ev eh hX X3 hv0 hv8
    have t0 := BX2.out.c0
    have t1 := BX2.out.c1
    go_wp2_with fail
    clear t0 t1
    refine (CL.out _ _ X _ XO.out.1 XO.out.2 HE.out).mono ?_
    rintro e v51 ⟨⟨p2, q2, c2, rfl, he2, hc2, hc3⟩, hb⟩
    replace A1 : Hid (Below w.heap.size w v51) := A1.out.trans (hb.mono A1.out.size)
    replace HE : Hid (Els v51 2 (some ⟨b, off, none⟩) n (lfF LG)) := HE.out.below hb
    replace SG : Hid (Strs v51 ga N EL) := SG.out.below hb
    replace BX2 : Hid (Box2 v51 xb 26 (.int .i64 X.v) (.string X.h)) := BX2.out.below hb
    have E2 : Hid (Els v51 2 (some ⟨p2, q2, none⟩) n (lfF (updE LG K X))) := he2
    have HC2 : Hid (n ≤ c2 ∧ c2 ≤ maxLen) := ⟨hc2, hc3⟩
    clear hb he2 hc2 hc3 CL
    clear HE
    go_wp2_with fail
    refine (L2.out _ _ _ X _ XO.out.1 HC2.out.1 HC2.out.2 E2.out (TW.out.below A1.out)).mono ?_
    rintro e v52 ⟨rfl, hb⟩
    replace A1 : Hid (Below w.heap.size w v52) := A1.out.trans (hb.mono A1.out.size)
    replace SG : Hid (Strs v52 ga N EL) := SG.out.below hb
    replace BX2 : Hid (Box2 v52 xb 26 (.int .i64 X.v) (.string X.h)) := BX2.out.below hb
    replace E2 : Hid (Els v52 2 (some ⟨p2, q2, none⟩) n (lfF (updE LG K X))) := E2.out.below hb
    clear hb L2
    clear E2
    obtain ⟨R2, hR2⟩ : ∃ R2, treeT (updE LG K X) 0 n = R2 := ⟨_, rfl⟩
    rw [hR2]
    have HR2 : Hid _ := hR2
    clear hR2
    have t0 := BX2.out.c0
    have t1 := BX2.out.c1
    go_wp2_with fail
    clear t0 t1
    refine (RF.out X _ _ R2 _ XO.out.1 HR2.out SG.out (TW.out.below A1.out)).mono ?_
    rintro e v53 ⟨rfl, hb⟩
    replace A1 : Hid (Below w.heap.size w v53) := A1.out.trans (hb.mono A1.out.size)
    replace SG : Hid (Strs v53 ga N EL) := SG.out.below hb
    replace BX2 : Hid (Box2 v53 xb 26 (.int .i64 X.v) (.string X.h)) := BX2.out.below hb
    clear hb RF
    clear SG BX2
    go_wp2_with fail
    refine (BI.out _ (TW.out.below A1.out)).mono ?_
    rintro e v54 ⟨rfl, hb⟩
    replace A1 : Hid (Below w.heap.size w v54) := A1.out.trans (hb.mono A1.out.size)
    clear hb BI
    go_wp2_with fail
    refine (BS.out _).mono ?_
    rintro e v55 ⟨rfl, hb⟩
    replace A1 : Hid (Below w.heap.size w v55) := A1.out.trans (hb.mono A1.out.size)
    clear hb BS
    clear XO HR2 HC2 KX SK TW HLs
    go_wp2
    go_ret
    exact ⟨rfl, A1.out⟩
end Go.Proofs.YtpljdlgjeeikkaaDoor
