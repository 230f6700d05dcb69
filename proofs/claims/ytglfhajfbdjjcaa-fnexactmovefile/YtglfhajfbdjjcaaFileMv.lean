/-
  MoveFile of the model, whole.
-/
import Derived.Test.YtglfhajfbdjjcaaFileMvA
namespace Go.Proofs.Ytglfhajfbdjjcaa
open Go.ChangeShapes Go.WideShapes Go.ChangeAt Go.RowKit
set_option linter.unusedVariables false
theorem ftIs_one {n : Nat} {F : Nat → Fi} {fr tp : ByteArray} {x : Int} (hl : ¬ (4096 < n ∨ LongT 2 (fun i => if i = 0 then fr else tp))) (h : FtIs n F 1 (fun _ => fr) x) (hx : x ≠ 0) : FtIs n F 2 (fun i => if i = 0 then fr else tp) x := by
  rcases h with ⟨a, rfl⟩ | ⟨a, ⟨b, rfl⟩ | ⟨b, ⟨⟨i, hi, g⟩, rfl⟩ | ⟨g, rfl⟩⟩⟩
  · refine absurd ?_ hl
    rcases a with q | ⟨i, hi, q⟩
    · exact .inl q
    · exact .inr ⟨0, by omega, q⟩
  · exact .inr ⟨hl, .inl ⟨b, rfl⟩⟩
  · exact .inr ⟨hl, .inr ⟨b, .inl ⟨⟨0, by omega, g⟩, rfl⟩⟩⟩
  · exact absurd rfl hx
set_option maxRecDepth 100000 in
set_option maxHeartbeats 4000000 in
theorem specMv_any (a : Option Addr) (n c : Nat) (F : Nat → Fi) (fr tp : ByteArray) (hsz : ∀ i, i < n → (F i).p.size ≤ 1048576) (hnn : n ≤ 1048576) (hpz : fr.size ≤ 1048576) (hqz : tp.size ≤ 1048576) (hsl : SlP a n c) (w : World) (h : Els w 3 a n (fiF F)) :
    Calls Try.prog 27 #[.slice a n c, .string fr, .string tp] w fun e w' => (∃ m G cd, MvIs n F fr tp m G cd ∧ RetFs m G cd w.heap.size e w') ∧ Below w.heap.size w w' := by
  have L0 : Hid (∀ w : World, EO (w.alloc (.cells #[] 33)) w.heap.size 33 3 (.slice (some ⟨w.heap.size, 0, none⟩) 0 0) 0 (fiF F)) := fun w => EO.lit w w.heap.size _ 3 (Nat.le_refl _) _
  by_cases hl : 4096 < n ∨ LongT 2 (fun i => if i = 0 then fr else tp)
  · have HX : Hid (MvIs n F fr tp 0 F 2) := .inl ⟨.inl ⟨hl, rfl⟩, by decide, rfl⟩
    by_cases h0 : 4096 < n
    · have g0 : (4096 : Int) < (n : Int) := by omega
      clear h hsz hl
      go_enter Try.func27, Try.ntmps27
      go_wp2
      go_ret2
      exact ⟨⟨0, F, 2, HX.out, ⟨_, _, rfl, L0.out w⟩⟩, (Below.refl _ _).alloc (Nat.le_refl _) _⟩
    · have g0 : ¬ (4096 : Int) < (n : Int) := by omega
      by_cases h1 : 65536 < fr.size
      · have g1 : (65536 : Int) < (fr.size : Int) := by omega
        clear h hsz hl
        go_enter Try.func27, Try.ntmps27
        go_wp2
        go_ret2
        exact ⟨⟨0, F, 2, HX.out, ⟨_, _, rfl, L0.out w⟩⟩, (Below.refl _ _).alloc (Nat.le_refl _) _⟩
      · have g1 : ¬ (65536 : Int) < (fr.size : Int) := by omega
        have g2 : (65536 : Int) < (tp.size : Int) := by
          rcases hl with q | ⟨i, hi, q⟩
          · exact absurd q h0
          · rcases (show i = 0 ∨ i = 1 by omega) with rfl | rfl
            · exact absurd q h1
            · have q2 : 65536 < tp.size := q
              omega
        clear h hsz hl
        go_enter Try.func27, Try.ntmps27
        go_wp2
        go_ret2
        exact ⟨⟨0, F, 2, HX.out, ⟨_, _, rfl, L0.out w⟩⟩, (Below.refl _ _).alloc (Nat.le_refl _) _⟩
  · have g0 : ¬ (4096 : Int) < (n : Int) := fun q => hl (.inl (by omega))
    have g1 : ¬ (65536 : Int) < (fr.size : Int) := fun q => hl (.inr ⟨0, by omega, by show 65536 < fr.size; omega⟩)
    have g2 : ¬ (65536 : Int) < (tp.size : Int) := fun q => hl (.inr ⟨1, by omega, by show 65536 < tp.size; omega⟩)
    have CD : Hid (Calls Try.prog 49 #[.slice a n c, .string fr] w fun e w' => (∃ x : Int, e = .returned (.int .i64 x) ∧ FtIs n F 1 (fun _ => fr) x) ∧ Below w.heap.size w w') := l11Code_any a n c F fr hsz hnn hpz w h
    have H : Hid (Els w 3 a n (fiF F)) := h
    have HL : Hid (¬ (4096 < n ∨ LongT 2 (fun i => if i = 0 then fr else tp))) := hl
    have HSL : Hid (SlP a n c) := hsl
    clear h hsz hl hsl
    go_enter Try.func27, Try.ntmps27
    go_wp2_with fail
    refine (Calls.mono CD.out) ?_
    rintro e v1 ⟨⟨x, rfl, hx⟩, hb⟩
    have B1 : Hid (Below w.heap.size w v1) := hb
    have HX : Hid (FtIs n F 1 (fun _ => fr) x) := hx
    clear hx hb CD
    by_cases h0 : x = 0
    · subst h0
      obtain ⟨ho, hp, hn4, -⟩ := HX.out.ok
      have hfr : PathOk fr := hp 0 (by omega)
      have HO : Hid (FsOk n F ∧ PathOk fr) := ⟨ho, hfr⟩
      have PK : Hid (∀ u : World, Calls Try.prog 60 #[.string tp] u fun e w' => Says e (PathOk tp) ∧ Below u.heap.size u w') := fun u => l11Path_any tp (by unfold maxLen; omega) u
      clear ho hp hn4 hfr
      go_wp2_with fail
      refine (PK.out _).mono ?_
      rintro e v2 ⟨⟨y, rfl, hy⟩, hb⟩
      have B2 : Hid (Below w.heap.size w v2) := B1.out.trans (hb.mono B1.out.size)
      have HY : Hid (y = true ↔ PathOk tp) := hy
      clear hy hb PK B1
      cases y with
      | false =>
        have HM : Hid (MvIs n F fr tp 0 F 16) := .inl ⟨.inr ⟨HL.out, .inr ⟨HO.out.1, .inl ⟨⟨1, by omega, fun q => by have := HY.out.2 q; cases this⟩, rfl⟩⟩⟩, by decide, rfl⟩
        have L1 : Hid (EO (v2.alloc (.cells #[] 33)) w.heap.size 33 3 (.slice (some ⟨v2.heap.size, 0, none⟩) 0 0) 0 (fiF F)) := (L0.out v2).mono B2.out.size
        clear HY HX
        go_wp2
        go_ret2
        exact ⟨⟨0, F, 16, HM.out, ⟨_, _, rfl, L1.out⟩⟩, B2.out.alloc B2.out.size _⟩
      | true =>
        have htp : PathOk tp := HY.out.1 rfl
        have HF2 : Hid (FtIs n F 2 (fun i => if i = 0 then fr else tp) 0) := .inr ⟨HL.out, .inr ⟨HO.out.1, .inr ⟨fun i hi => by
          rcases (show i = 0 ∨ i = 1 by omega) with rfl | rfl
          · exact HO.out.2
          · exact htp, rfl⟩⟩⟩
        have MK : Hid (∀ u : World, Below w.heap.size w u → Calls Try.prog 61 #[.slice a n c, .string fr, .string tp] u fun e w'' => (∃ (a' : Option Addr) (m c' : Nat) (G : Nat → Fi) (cd : Int), e = .returned (.tuple #[.slice a' m c', .int .i64 cd]) ∧ Els w'' 3 a' m (fiF G) ∧ (a' = none → c' = 0) ∧ MvP n F fr tp m G cd) ∧ Below u.heap.size u w'') := fun u hb => l11Move_any a n c F fr tp HO.out.1 HO.out.2 htp HSL.out u (H.out.below hb)
        have hn12 := HO.out.1.1
        clear HY HX htp
        go_wp2_with fail
        refine (MK.out _ B2.out).mono ?_
        rintro e v3 ⟨⟨a', m, c', G, cd, rfl, hE, hz', hM⟩, hb⟩
        have hml := hM.le
        have HM : Hid (MvIs n F fr tp m G cd) := .inr ⟨HF2.out, hM⟩
        obtain ⟨a3, c3, v4, hr, ho3, hb3⟩ := ownAll (by omega) hE hz'
        have B3 : Hid (Below w.heap.size w v4) := (B2.out.trans (hb.mono B2.out.size)).trans (hb3.mono (by have := B2.out.size; have := hb.size; omega))
        have O3 : Hid (EO v4 w.heap.size 33 3 (.slice a3 m c3) m (fiF G)) := ho3.mono (by have := B2.out.size; have := hb.size; omega)
        clear hE hz' hM hb ho3 hb3 MK B2 L0
        go_wp2_with (at_builtin; refine Lib.wpList_append_run _ rfl (.tmp 42) (.tmp 43) 26 26 rfl (.slice (some ⟨v3.heap.size, 0, none⟩) 0 0) (.slice a' m c') rfl rfl _ _ (hr _) ?_)
        go_ret2
        exact ⟨⟨m, G, cd, HM.out, ⟨_, _, rfl, O3.out⟩⟩, B3.out⟩
    · have g : (x != 0) = true := by simpa using h0
      have HM : Hid (MvIs n F fr tp 0 F x) := .inl ⟨ftIs_one HL.out HX.out h0, h0, rfl⟩
      have L1 : Hid (EO (v1.alloc (.cells #[] 33)) w.heap.size 33 3 (.slice (some ⟨v1.heap.size, 0, none⟩) 0 0) 0 (fiF F)) := (L0.out v1).mono B1.out.size
      clear h0 HX
      go_wp2
      go_ret2
      exact ⟨⟨0, F, x, HM.out, ⟨_, _, rfl, L1.out⟩⟩, B1.out.alloc B1.out.size _⟩
end Go.Proofs.Ytglfhajfbdjjcaa
