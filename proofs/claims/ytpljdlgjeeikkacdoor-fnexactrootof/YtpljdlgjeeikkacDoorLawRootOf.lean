/-
  The exact law of RootOf (written by tools/leaf_law.py).
-/
import Derived.Test.YtpljdlgjeeikkacDoorRootS
namespace Go.Proofs.YtpljdlgjeeikkacDoor
open Go.ChangeShapes Go.WideShapes Go.ChangeAt Go.RowKit
set_option linter.unusedVariables false
set_option maxRecDepth 100000 in
set_option maxHeartbeats 4000000 in
theorem law_rootOf (xv : Int) (xh : ByteArray) (k n : Int) (a : Option Addr) (m c : Nat) (P : Nat → ByteArray) (hx : xh.size ≤ maxLen) (hm : m ≤ maxLen) (hf : ∀ i, i < m → (P i).size ≤ maxLen) (w : World) (h : Strs w a m P) (hT : Tabs w) :
    Calls Tryd.prog 4 #[.agg #[.int .i64 xv, .string xh], .int .i64 k, .int .i64 n, .slice a m c] w fun e w' => e = .returned (.bool true) ∧ Below w.heap.size w w' := by
  obtain ⟨r, cd, hA⟩ := rfA_ex ⟨xv, xh⟩ k n m P
  have SX : Hid (∀ w : World, Calls Tryd.prog 14 #[.agg #[.int .i64 xv, .string xh], .int .i64 1048576] w fun e w' => (∃ y : Int, e = .returned (.int .i64 y) ∧ -1 ≤ y ∧ y ≤ 1048576) ∧ Below w.heap.size w w') := fun w => szLeaf_any xv xh 1048576 w (by omega) (by omega) hx
  have SZ : Hid (∀ (y : Int) (w : World), 0 ≤ y → y ≤ 1048576 → Strs w a m P → Calls Tryd.prog 15 #[.slice a m c, .int .i64 y] w fun e w' => (∃ y : Int, e = .returned (.int .i64 y) ∧ y ≤ 1048576 ∧ (0 ≤ y → m ≤ 1048576)) ∧ Below w.heap.size w w') := fun y w h0 h1 h => (szStrT_any a m c P y w h h0 h1 hm hf).mono fun _ _ q => ⟨q.1, by rw [← q.2]; exact Below.refl _ _⟩
  have TL : Hid (∀ w : World, Calls Tryd.prog 17 #[.agg #[.int .i64 xv, .string xh]] w fun e w' => e = .returned (.agg #[.int .i64 xv, .string xh]) ∧ Below w.heap.size w w') := fun w => toLeaf_any xv xh w
  have A1 : Hid (Below w.heap.size w (w.alloc (.cells #[.int .i64 xv, .string xh] 35))) := (Below.refl _ _).alloc (Nat.le_refl _) _
  have HE : Hid (Strs (w.alloc (.cells #[.int .i64 xv, .string xh] 35)) a m P) := h.below A1.out
  have TW : Hid (Tabs (w.alloc (.cells #[.int .i64 xv, .string xh] 35))) := hT.below A1.out
  have RX : Hid (Box2 (w.alloc (.cells #[.int .i64 xv, .string xh] 35)) w.heap.size 35 (.int .i64 xv) (.string xh)) := Box2.made _ _ _ _
  clear h hm hf hT hx
  go_enter Tryd.func4, Tryd.ntmps4
  have t0 := RX.out.c0
  have t1 := RX.out.c1
  go_wp2_with fail
  clear t0 t1
  generalize (w.alloc (.cells #[.int .i64 xv, .string xh] 35)) = v1 at *
  refine (SX.out _).mono ?_
  rintro e v2 ⟨⟨y, rfl, hy, hy2⟩, hb⟩
  replace A1 : Hid (Below w.heap.size w v2) := A1.out.trans (hb.mono A1.out.size)
  replace HE : Hid (Strs v2 a m P) := HE.out.below hb
  replace TW : Hid (Tabs v2) := TW.out.below hb
  replace RX : Hid (Box2 v2 w.heap.size 35 (.int .i64 xv) (.string xh)) := RX.out.below hb
  clear hb SX
  by_cases hy0 : y < 0
  · go_wp2
    go_ret
    exact ⟨rfl, A1.out⟩
  go_wp2_with fail
  refine (SZ.out _ _ (by omega) hy2 HE.out).mono ?_
  rintro e v3 ⟨⟨z, rfl, hz, hz2⟩, hb⟩
  replace A1 : Hid (Below w.heap.size w v3) := A1.out.trans (hb.mono A1.out.size)
  replace HE : Hid (Strs v3 a m P) := HE.out.below hb
  replace TW : Hid (Tabs v3) := TW.out.below hb
  replace RX : Hid (Box2 v3 w.heap.size 35 (.int .i64 xv) (.string xh)) := RX.out.below hb
  clear hb SZ
  by_cases hz0 : z < 0
  · clear hz2
    go_wp2
    go_ret
    exact ⟨rfl, A1.out⟩
  have hm2 : m ≤ 1048576 := hz2 (by omega)
  clear hz2
  have SO : Hid (∀ (b : Option Addr) (w : World), Strs w b m P → Calls Tryd.prog 16 #[.agg #[.int .i64 xv, .string xh], .int .i64 k, .int .i64 n, .slice b m m] w fun e w' => e = .returned (.tuple #[.string r, .int .i64 cd]) ∧ Below w.heap.size w w') := fun b w h => specRf_any ⟨xv, xh⟩ k n b m m P r cd hA hm2 (Nat.le_refl _) (by unfold maxLen; omega) w h
  have IY : Hid (∀ (b : Option Addr) (w : World), Strs w b m P → Tabs w → Calls Tryd.prog 19 #[.agg #[.int .i64 xv, .string xh], .int .i64 k, .int .i64 n, .slice b m m] w fun e w' => e = .returned (.tuple #[.string r, .int .i64 cd]) ∧ Below w.heap.size w w') := fun b w h hT => implRf_any ⟨xv, xh⟩ k n b m m P r cd hA hm2 w h hT
  have TO : Hid (∀ w : World, Strs w a m P → Calls Tryd.prog 18 #[.slice a m c] w fun e w' => (∃ g, e = .returned (.slice (some ⟨g, 0, none⟩) m m) ∧ Strs w' (some ⟨g, 0, none⟩) m P) ∧ Below w.heap.size w w') := fun w h => (toStrT_any a m c P w h hm2).mono fun _ _ q => ⟨⟨_, q.1, Strs.ofRow q.2.1⟩, q.2.2⟩
  have EQ : Hid (∀ (b e : Option Addr) (x y : Nat) (w : World), Strs w b m P → Strs w e m P → Calls Tryd.prog 9 #[.slice b m x, .slice e m y] w fun e w' => e = .returned (.bool true) ∧ Below w.heap.size w w') := fun b e x y w h h' => (eqStringS_yes b e m x y P P w h h' (fun _ _ => rfl) hm2).mono fun _ _ q => ⟨q.1, by obtain ⟨z, e⟩ := q.2; rw [e]; exact below_dN _ _⟩
  have rr : (cd != cd) = false := by simp
  clear hA hm2
  have t0 := RX.out.c0
  have t1 := RX.out.c1
  go_wp2_with fail
  clear t0 t1
  refine (TL.out _).mono ?_
  rintro e v4 ⟨rfl, hb⟩
  replace A1 : Hid (Below w.heap.size w v4) := A1.out.trans (hb.mono A1.out.size)
  replace HE : Hid (Strs v4 a m P) := HE.out.below hb
  replace TW : Hid (Tabs v4) := TW.out.below hb
  replace RX : Hid (Box2 v4 w.heap.size 35 (.int .i64 xv) (.string xh)) := RX.out.below hb
  clear hb 
  go_wp2_with fail
  refine (TO.out _ HE.out).mono ?_
  rintro e v5 ⟨⟨ga, rfl, hra⟩, hb⟩
  replace A1 : Hid (Below w.heap.size w v5) := A1.out.trans (hb.mono A1.out.size)
  replace HE : Hid (Strs v5 a m P) := HE.out.below hb
  replace TW : Hid (Tabs v5) := TW.out.below hb
  replace RX : Hid (Box2 v5 w.heap.size 35 (.int .i64 xv) (.string xh)) := RX.out.below hb
  have Xa : Hid (Strs v5 (some ⟨ga, 0, none⟩) m P) := hra
  clear hb hra
  go_wp2_with fail
  refine (SO.out _ _ Xa.out).mono ?_
  rintro e v6 ⟨rfl, hb⟩
  replace A1 : Hid (Below w.heap.size w v6) := A1.out.trans (hb.mono A1.out.size)
  replace HE : Hid (Strs v6 a m P) := HE.out.below hb
  replace TW : Hid (Tabs v6) := TW.out.below hb
  replace RX : Hid (Box2 v6 w.heap.size 35 (.int .i64 xv) (.string xh)) := RX.out.below hb
  replace Xa : Hid (Strs v6 (some ⟨ga, 0, none⟩) m P) := Xa.out.below hb
  clear hb SO
  clear Xa
  go_wp2_with fail
  refine (TO.out _ HE.out).mono ?_
  rintro e v7 ⟨⟨gb, rfl, hrb⟩, hb⟩
  replace A1 : Hid (Below w.heap.size w v7) := A1.out.trans (hb.mono A1.out.size)
  replace HE : Hid (Strs v7 a m P) := HE.out.below hb
  replace TW : Hid (Tabs v7) := TW.out.below hb
  replace RX : Hid (Box2 v7 w.heap.size 35 (.int .i64 xv) (.string xh)) := RX.out.below hb
  have Xb : Hid (Strs v7 (some ⟨gb, 0, none⟩) m P) := hrb
  clear hb hrb
  have t0 := RX.out.c0
  have t1 := RX.out.c1
  go_wp2_with fail
  clear t0 t1
  refine (TL.out _).mono ?_
  rintro e v8 ⟨rfl, hb⟩
  replace A1 : Hid (Below w.heap.size w v8) := A1.out.trans (hb.mono A1.out.size)
  replace HE : Hid (Strs v8 a m P) := HE.out.below hb
  replace TW : Hid (Tabs v8) := TW.out.below hb
  replace RX : Hid (Box2 v8 w.heap.size 35 (.int .i64 xv) (.string xh)) := RX.out.below hb
  replace Xb : Hid (Strs v8 (some ⟨gb, 0, none⟩) m P) := Xb.out.below hb
  clear hb 
  go_wp2_with fail
  refine (IY.out _ _ Xb.out TW.out).mono ?_
  rintro e v9 ⟨rfl, hb⟩
  replace A1 : Hid (Below w.heap.size w v9) := A1.out.trans (hb.mono A1.out.size)
  replace HE : Hid (Strs v9 a m P) := HE.out.below hb
  replace TW : Hid (Tabs v9) := TW.out.below hb
  replace RX : Hid (Box2 v9 w.heap.size 35 (.int .i64 xv) (.string xh)) := RX.out.below hb
  replace Xb : Hid (Strs v9 (some ⟨gb, 0, none⟩) m P) := Xb.out.below hb
  clear hb IY
  go_wp2_with fail
  refine (TO.out _ HE.out).mono ?_
  rintro e v10 ⟨⟨gc, rfl, hrc⟩, hb⟩
  replace A1 : Hid (Below w.heap.size w v10) := A1.out.trans (hb.mono A1.out.size)
  replace HE : Hid (Strs v10 a m P) := HE.out.below hb
  replace TW : Hid (Tabs v10) := TW.out.below hb
  replace RX : Hid (Box2 v10 w.heap.size 35 (.int .i64 xv) (.string xh)) := RX.out.below hb
  replace Xb : Hid (Strs v10 (some ⟨gb, 0, none⟩) m P) := Xb.out.below hb
  have Xc : Hid (Strs v10 (some ⟨gc, 0, none⟩) m P) := hrc
  clear hb hrc
  go_wp2_with fail
  refine (EQ.out _ _ _ _ _ Xb.out Xc.out).mono ?_
  rintro e v11 ⟨rfl, hb⟩
  replace A1 : Hid (Below w.heap.size w v11) := A1.out.trans (hb.mono A1.out.size)
  replace HE : Hid (Strs v11 a m P) := HE.out.below hb
  replace TW : Hid (Tabs v11) := TW.out.below hb
  replace RX : Hid (Box2 v11 w.heap.size 35 (.int .i64 xv) (.string xh)) := RX.out.below hb
  replace Xb : Hid (Strs v11 (some ⟨gb, 0, none⟩) m P) := Xb.out.below hb
  replace Xc : Hid (Strs v11 (some ⟨gc, 0, none⟩) m P) := Xc.out.below hb
  clear hb EQ
  clear HE Xb Xc TO rr TW RX TL
  go_wp2
  go_ret
  exact ⟨rfl, A1.out⟩
end Go.Proofs.YtpljdlgjeeikkacDoor
