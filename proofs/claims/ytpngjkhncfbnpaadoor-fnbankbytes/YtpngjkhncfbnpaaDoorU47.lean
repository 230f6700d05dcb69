/-
  Texts of the proof, joined: BankByS0, BankByS.
-/
import Derived.Test.YtpngjkhncfbnpaaDoorU46
import Derived.Test.YtpngjkhncfbnpaaDoorU22
import Derived.Test.YtpngjkhncfbnpaaDoorU07
namespace Go.Proofs.YtpngjkhncfbnpaaDoor
open Go.ChangeShapes Go.WideShapes Go.ChangeAt Go.RowKit
set_option linter.unusedVariables false
def LitL (w : World) (b : Nat) (L : List Nat) : Prop := ∀ j (hj : j < L.length), w.cell? ⟨b, 0 + j, none⟩ = some (.int .u8 ((L[j] : Nat) : Int))
theorem numEqU {a b : Int} (h : a = b) : Value.int .u8 a = .int .u8 b := by rw [h]
theorem numL4 (x : Nat) : numL 4 x = [x / 16777216 % 256, x / 65536 % 256, x / 256 % 256, x % 256] := by
  unfold numL numP
  simp [List.range, List.range.loop]
theorem numL2 (x : Nat) : numL 2 x = [x / 256 % 256, x % 256] := by
  unfold numL numP
  simp [List.range, List.range.loop]
theorem litL_of {w : World} {b : Nat} {L : List Nat} {t : TypeId} {m : Nat} (F : Nat → Value) (h : w.rowIs b t m F) (hm : L.length ≤ m) (e : ∀ j (hj : j < L.length), F j = .int .u8 ((L[j] : Nat) : Int)) : LitL w b L := fun j hj => by
  rw [Nat.zero_add, World.rowIs.cell h (by omega), e j hj]
theorem l02FourL (k : Nat) (hk : k ≤ 1000000) (w : World) :
    Calls Tryd.prog 98 #[.int .i64 (k : Int)] w fun e w' => e = .returned (.slice (some ⟨w.heap.size, 0, none⟩) 4 4) ∧ LitL w' w.heap.size (numL 4 k) ∧ w.heap.size < w'.heap.size ∧ Below w.heap.size w w' := by
  go_enter Tryd.func98, Tryd.ntmps98
  go_wp2
  go_ret
  refine ⟨rfl, litL_of _ (World.rowIs_alloc w #[.int .u8 ((k : Int) / 16777216), .int .u8 ((k : Int) / 65536), .int .u8 ((k : Int) / 256 % 256), .int .u8 ((k : Int) % 256)] 5 (fun i => if i = 0 then .int .u8 ((k : Int) / 16777216) else if i = 1 then .int .u8 ((k : Int) / 65536) else if i = 2 then .int .u8 ((k : Int) / 256 % 256) else .int .u8 ((k : Int) % 256)) (fun i hi => ?_)) (by rw [numL_length]; exact Nat.le_refl _) (fun j hj => ?_), by simp, (Below.refl _ _).alloc (Nat.le_refl _) _⟩
  · have hi' : i < 4 := by simpa using hi
    rcases (show i = 0 ∨ i = 1 ∨ i = 2 ∨ i = 3 by omega) with rfl | rfl | rfl | rfl <;> rfl
  · rw [numL_length] at hj
    simp only [numL4]
    rcases (show j = 0 ∨ j = 1 ∨ j = 2 ∨ j = 3 by omega) with rfl | rfl | rfl | rfl
    · exact numEqU (by show (k : Int) / 16777216 = ((k / 16777216 % 256 : Nat) : Int); omega)
    · exact numEqU (by show (k : Int) / 65536 = ((k / 65536 % 256 : Nat) : Int); omega)
    · exact numEqU (by show (k : Int) / 256 % 256 = ((k / 256 % 256 : Nat) : Int); omega)
    · exact numEqU (by show (k : Int) % 256 = ((k % 256 : Nat) : Int); omega)
theorem l08TwoL (k : Nat) (hk : k ≤ 65535) (w : World) :
    Calls Tryd.prog 99 #[.int .i64 (k : Int)] w fun e w' => e = .returned (.slice (some ⟨w.heap.size, 0, none⟩) 2 2) ∧ LitL w' w.heap.size (numL 2 k) ∧ w.heap.size < w'.heap.size ∧ Below w.heap.size w w' := by
  go_enter Tryd.func99, Tryd.ntmps99
  go_wp2
  go_ret
  refine ⟨rfl, litL_of _ (World.rowIs_alloc w #[.int .u8 ((k : Int) / 256), .int .u8 ((k : Int) % 256)] 5 (fun i => if i = 0 then .int .u8 ((k : Int) / 256) else .int .u8 ((k : Int) % 256)) (fun i hi => ?_)) (by rw [numL_length]; exact Nat.le_refl _) (fun j hj => ?_), by simp, (Below.refl _ _).alloc (Nat.le_refl _) _⟩
  · have hi' : i < 2 := by simpa using hi
    rcases (show i = 0 ∨ i = 1 by omega) with rfl | rfl <;> rfl
  · rw [numL_length] at hj
    simp only [numL2]
    rcases (show j = 0 ∨ j = 1 by omega) with rfl | rfl
    · exact numEqU (by show (k : Int) / 256 = ((k / 256 % 256 : Nat) : Int); omega)
    · exact numEqU (by show (k : Int) % 256 = ((k % 256 : Nat) : Int); omega)
end Go.Proofs.YtpngjkhncfbnpaaDoor
namespace Go.Proofs.YtpngjkhncfbnpaaDoor
open Go.ChangeShapes Go.WideShapes Go.ChangeAt Go.RowKit
set_option linter.unusedVariables false
set_option maxRecDepth 100000 in
set_option maxHeartbeats 8000000 in
theorem l08Bytes_any (d : Bk) (hd : d.Ok) (a0 a1 : Option Addr) (e0 e1 : Nat) (w : World) (h : BankV w d a0 a1) :
    Calls Tryd.prog 63 #[.agg #[.slice a0 d.nr e0, .slice a1 d.ns e1]] w fun e w' => (∃ g c, e = .returned (.slice (some ⟨g, 0, none⟩) (bankL d).length c) ∧ RL w' w.heap.size g c (bankL d)) ∧ Below w.heap.size w w' := by
  have FO : Hid (∀ (x : Nat) (w : World), x ≤ 1000000 → Calls Tryd.prog 98 #[.int .i64 (x : Int)] w fun e w' => e = .returned (.slice (some ⟨w.heap.size, 0, none⟩) 4 4) ∧ LitL w' w.heap.size (numL 4 x) ∧ w.heap.size < w'.heap.size ∧ Below w.heap.size w w') := fun x w hx => l02FourL x hx w
  have TW : Hid (∀ (x : Nat) (w : World), x ≤ 65535 → Calls Tryd.prog 99 #[.int .i64 (x : Int)] w fun e w' => e = .returned (.slice (some ⟨w.heap.size, 0, none⟩) 2 2) ∧ LitL w' w.heap.size (numL 2 x) ∧ w.heap.size < w'.heap.size ∧ Below w.heap.size w w') := fun x w hx => l08TwoL x hx w
  have HD : Hid d.Ok := hd
  have n6 := hd.1.1
  have m6 := hd.2.1
  have HV : Hid (BankV w d a0 a1) := h
  have A1 : Hid (Below w.heap.size w (w.alloc (.cells #[.slice a0 d.nr e0, .slice a1 d.ns e1] 46))) := (Below.refl _ _).alloc (Nat.le_refl _) _
  have X : Hid (Box2 (w.alloc (.cells #[.slice a0 d.nr e0, .slice a1 d.ns e1] 46)) w.heap.size 46 (.slice a0 d.nr e0) (.slice a1 d.ns e1)) := Box2.made _ _ _ _
  obtain ⟨v0, hv0⟩ : ∃ v0, v0 = (w.alloc (.cells #[.slice a0 d.nr e0, .slice a1 d.ns e1] 46)) := ⟨_, rfl⟩
  rw [← hv0] at A1 X
  have VR : Hid (Els v0 3 a0 d.nr (rgF d.R)) := HV.out.1.below A1.out
  have VS : Hid (Els v0 4 a1 d.ns (seF d.S)) := HV.out.2.below A1.out
  have y0 : (d.nr : Int) % 256 = (d.nr : Int) := by omega
  have RB : Hid (RL (v0.alloc (.cells #[.int .u8 ((d.nr : Nat) : Int)] 5)) v0.heap.size v0.heap.size 1 [d.nr]) := RL.made v0 _ [d.nr] 1 rfl (by omega) rfl
  have BB : Hid (Below v0.heap.size v0 (v0.alloc (.cells #[.int .u8 ((d.nr : Nat) : Int)] 5))) := (Below.refl _ _).alloc (Nat.le_refl _) _
  have hs0 : v0.heap.size = w.heap.size + 1 := by rw [hv0]; simp
  have HS0 : Hid (v0.heap.size = w.heap.size + 1) := hs0
  clear h hd HV
  go_enter Tryd.func63, Tryd.ntmps63
  go_wp2
  rw [← hv0, ← hs0]
  generalize (v0.alloc (.cells #[.int .u8 ((d.nr : Nat) : Int)] 5)) = v1 at *
  clear hs0 hv0
  go_loopw [3, 4] (fun s i wr => ∃ k g c : Nat, k ≤ d.nr ∧ i = .int .i64 k ∧ s = .slice (some ⟨g, 0, none⟩) (1 + k * 37) c ∧ RL wr v0.heap.size g c ([d.nr] ++ flatL rgL d.R k) ∧ Below v0.heap.size v0 wr) (fun _ i _ => d.nr - (intOf i).toNat)
  case atStart => exact ⟨0, v0.heap.size, 1, by omega, rfl, rfl, by simpa [flatL] using RB.out, BB.out⟩
  case round =>
    clear RB BB
    obtain ⟨k, g, c, hk, rfl, rfl, hrow, hb⟩ := hrel
    have HR : Hid (RL wr v0.heap.size g c ([d.nr] ++ flatL rgL d.R k)) := hrow
    have HB : Hid (Below v0.heap.size v0 wr) := hb
    have x0' := (X.out.below hb).c0
    by_cases hlt : k < d.nr
    · have hlt' : (k : Int) < (d.nr : Int) := by omega
      obtain ⟨b, off, ha, hc⟩ := (VR.out.below hb).opened (by omega)
      cases ha
      obtain ⟨c0, c1, c2⟩ := Els.rgC hc k hlt
      have hok := (HD.out.1.2 k hlt).1
      have LL : Hid (([d.nr] ++ flatL rgL d.R k).length = 1 + k * 37) := by show _ = _; rw [List.length_append, flatL_rg HD.out k hk]; rfl
      have EF : Hid (flatL rgL d.R (k + 1) = flatL rgL d.R k ++ rgL (d.R k)) := rfl
      have S32 : Hid ((d.R k).r.size = 32) := hok.2.2
      obtain ⟨V, hV⟩ := Int.eq_ofNat_of_zero_le hok.1.1
      obtain ⟨C, hC⟩ := Int.eq_ofNat_of_zero_le (show 0 ≤ (d.R k).c by have := hok.2.1.1; omega)
      have hV2 : V ≤ 255 := by have := hok.1.2; omega
      have hC2 : C ≤ 1000000 := by have := hok.2.1.2; omega
      rw [hV] at c0
      rw [hC] at c1
      have RK2 : Hid (rgL (d.R k) = [V] ++ numL 4 C ++ strL (d.R k).r) := by show rgL _ = _; unfold rgL; rw [hV, hC]; rfl
      generalize (d.R k).r = T at *
      clear hok hc hb hV hC
      obtain ⟨v2, hv2⟩ : ∃ v2, v2 = wr.alloc (.cells #[.int .i64 (V : Int), .int .i64 (C : Int), .string T] 54) := ⟨_, rfl⟩
      have hbr : Below wr.heap.size wr v2 := by rw [hv2]; exact (Below.refl _ _).alloc (Nat.le_refl _) _
      have Y : Hid (Box3 v2 wr.heap.size 54 (.int .i64 (V : Int)) (.int .i64 (C : Int)) (.string T)) := by show Box3 _ _ _ _ _ _; rw [hv2]; exact Box3.made _ _ _ _ _
      have gl := HR.out.ge
      have B2 : Hid (Below v0.heap.size v0 v2) := HB.out.trans (hbr.mono HB.out.size)
      have BH : Hid (v0.heap.size ≤ v2.heap.size) := B2.out.size
      have R2 : Hid (RL v2 v0.heap.size g c ([d.nr] ++ flatL rgL d.R k)) := HR.out.below hbr
      have NG : Hid (g ≠ wr.heap.size) := by show _ ≠ _; omega
      have RBL : Hid (wr.heap.size < v2.heap.size) := Y.out.lt
      have yV : (V : Int) % 256 = (V : Int) := by omega
      have wV : IntKind.u8.wrap (V : Int) = (V : Int) := IntWalk.u8_in _ (by omega)
      have kk : k * 37 ≤ 222 := by omega
      have FC : Hid (∀ (w : World) (_ : True), Calls Tryd.prog 98 #[.int .i64 (C : Int)] w fun e w' => e = .returned (.slice (some ⟨w.heap.size, 0, none⟩) 4 4) ∧ LitL w' w.heap.size (numL 4 C) ∧ w.heap.size < w'.heap.size ∧ Below w.heap.size w w') := fun w _ => FO.out C w hC2
      clear hrow HR hbr gl
      go_wp2_with fail
      rw [← hv2]
      generalize wr.heap.size = rb at *
      clear hv2 HB c0 c1 c2 x0'
      have H : OnlyB g v2 v2.drew := (OnlyB.refl _ _).below ((Below.refl _ _).drew)
      have R0 : Hid (RL v2.drew v0.heap.size g c ([d.nr] ++ flatL rgL d.R k)) := R2.out.below ((Below.refl _ _).drew)
      have S0 : Hid (v2.heap.size ≤ v2.drew.heap.size) := Nat.le_refl _
      refine wp_region_noPanic ?_
      refine wp_region_held_drew (S := fun w' => OnlyB g v2 w') (by kernel_rfl) H (fun _ => ?_)
      generalize v2.drew = x0 at *
      have H0 : Hid (OnlyB g v2 x0) := H
      refine wpAnyH_take (i := 0) (v := .slice (some ⟨g, 0, none⟩) (1 + k * 37) c) rfl (by kernel_rfl) (by kernel_rfl) (by kernel_rfl) (fun _ _ _ h => h) (Or.inl ⟨by rfl, ?_⟩) H ?_
      · intro w' hSw; clear hSw; go_simp
      change wpAnyH _ _ _ _ _ _ _ { tmps := #[_,_,_,_,_,_,_,_,_,_,_,_,_,_,_,_,_,_,_,_,_,_,_,_,_,_,_,_,_,_,_,_,_,_,_,_,_,_,_,_,_,_,_,_,_,_,_,_,_,_,_,_,_,_,_,_,_,_,_,_,_,_,_,_,_,_,_,_,_,_,_,_,_,_,_,_,_,_], defers := _ } _
      refine wpAnyH_take (i := 1) (v := .pointer (some ⟨rb, 0, none⟩)) rfl (by kernel_rfl) (by kernel_rfl) (by kernel_rfl) (fun _ _ _ h => h) (Or.inl ⟨by rfl, ?_⟩) H ?_
      · intro w' hSw; clear hSw; go_simp
      change wpAnyH _ _ _ _ _ _ _ { tmps := #[_,_,_,_,_,_,_,_,_,_,_,_,_,_,_,_,_,_,_,_,_,_,_,_,_,_,_,_,_,_,_,_,_,_,_,_,_,_,_,_,_,_,_,_,_,_,_,_,_,_,_,_,_,_,_,_,_,_,_,_,_,_,_,_,_,_,_,_,_,_,_,_,_,_,_,_,_,_], defers := _ } _
      refine wpAnyH_take (i := 2) (v := .int .i64 (V : Int)) rfl (by kernel_rfl) (by kernel_rfl) (by kernel_rfl) (fun _ _ _ h => h) (Or.inl ⟨by rfl, ?_⟩) H ?_
      · intro w' hSw; have t0 := (Y.out.ofBlock (hSw.block _ Y.out.lt (fun e => NG.out e.symm))).c0; clear hSw; go_simp
      change wpAnyH _ _ _ _ _ _ _ { tmps := #[_,_,_,_,_,_,_,_,_,_,_,_,_,_,_,_,_,_,_,_,_,_,_,_,_,_,_,_,_,_,_,_,_,_,_,_,_,_,_,_,_,_,_,_,_,_,_,_,_,_,_,_,_,_,_,_,_,_,_,_,_,_,_,_,_,_,_,_,_,_,_,_,_,_,_,_,_,_], defers := _ } _
      refine wpAnyH_take (i := 3) (v := .int .u8 (V : Int)) rfl (by kernel_rfl) (by kernel_rfl) (by kernel_rfl) (fun _ _ _ h => h) (Or.inl ⟨by rfl, ?_⟩) H ?_
      · intro w' hSw; clear hSw; go_simp
      change wpAnyH _ _ _ _ _ _ _ { tmps := #[_,_,_,_,_,_,_,_,_,_,_,_,_,_,_,_,_,_,_,_,_,_,_,_,_,_,_,_,_,_,_,_,_,_,_,_,_,_,_,_,_,_,_,_,_,_,_,_,_,_,_,_,_,_,_,_,_,_,_,_,_,_,_,_,_,_,_,_,_,_,_,_,_,_,_,_,_,_], defers := _ } _
      obtain ⟨g2, c2', w2, hr2, hrow2, ho2, hg2⟩ := app1 x0 v0.heap.size g c (1 + k * 37) _ V (Nat.le_trans BH.out S0.out) LL.out.symm (by omega) R0.out
      refine wpAnyH_take (i := 6) (v := .pointer (some ⟨rb, 1, none⟩)) rfl (by kernel_rfl) (by kernel_rfl) (by kernel_rfl) (fun _ _ _ h => h) (Or.inl ⟨by rfl, ?_⟩) H ?_
      · intro w' hSw; clear hSw; go_simp
      change wpAnyH _ _ _ _ _ _ _ { tmps := #[_,_,_,_,_,_,_,_,_,_,_,_,_,_,_,_,_,_,_,_,_,_,_,_,_,_,_,_,_,_,_,_,_,_,_,_,_,_,_,_,_,_,_,_,_,_,_,_,_,_,_,_,_,_,_,_,_,_,_,_,_,_,_,_,_,_,_,_,_,_,_,_,_,_,_,_,_,_], defers := _ } _
      refine wpAnyH_take (i := 7) (v := .int .i64 (C : Int)) rfl (by kernel_rfl) (by kernel_rfl) (by kernel_rfl) (fun _ _ _ h => h) (Or.inl ⟨by rfl, ?_⟩) H ?_
      · intro w' hSw; have t0 := (Y.out.ofBlock (hSw.block _ Y.out.lt (fun e => NG.out e.symm))).c1; clear hSw; go_simp
      change wpAnyH _ _ _ _ _ _ _ { tmps := #[_,_,_,_,_,_,_,_,_,_,_,_,_,_,_,_,_,_,_,_,_,_,_,_,_,_,_,_,_,_,_,_,_,_,_,_,_,_,_,_,_,_,_,_,_,_,_,_,_,_,_,_,_,_,_,_,_,_,_,_,_,_,_,_,_,_,_,_,_,_,_,_,_,_,_,_,_,_], defers := _ } _
      refine wpAnyH_ready (rs := [4]) (by kernel_rfl) (by simp) ?_
      refine AllReadyH.cons rfl (fun KK hK => ?_) AllReadyH.nil
      go_simp
      have H1 : OnlyB g v2 (x0.alloc (.cells #[.int .u8 ((V : Nat) : Int)] 5)) := H.below ((Below.refl _ _).alloc (Nat.le_refl _) _)
      refine hK.out _ _ H1 (fun _ => ?_)
      clear hK KK
      change wpAnyH _ _ _ _ _ _ _ { tmps := #[_,_,_,_,_,_,_,_,_,_,_,_,_,_,_,_,_,_,_,_,_,_,_,_,_,_,_,_,_,_,_,_,_,_,_,_,_,_,_,_,_,_,_,_,_,_,_,_,_,_,_,_,_,_,_,_,_,_,_,_,_,_,_,_,_,_,_,_,_,_,_,_,_,_,_,_,_,_], defers := _ } _
      clear H
      have H2 : OnlyB g v2 w2 := H0.out.behind ho2 (.inl rfl)
      refine wpAnyH_ready (rs := [5]) (by kernel_rfl) (by simp) ?_
      refine AllReadyH.cons rfl (fun KK hK => ?_) AllReadyH.nil
      rw [if_pos (by rfl)]
      refine Lib.wp_append_run _ (.tmp 25) (.tmp 29) 40 40 rfl (.slice (some ⟨g, 0, none⟩) (1 + k * 37) c) (.slice (some ⟨x0.heap.size, 0, none⟩) 1 1) rfl rfl _ _ (hr2 _) ?_
      clear hr2
      refine hK.out _ _ H2 (fun _ => ?_)
      clear hK KK
      change wpAnyH _ _ _ _ _ _ _ { tmps := #[_,_,_,_,_,_,_,_,_,_,_,_,_,_,_,_,_,_,_,_,_,_,_,_,_,_,_,_,_,_,_,_,_,_,_,_,_,_,_,_,_,_,_,_,_,_,_,_,_,_,_,_,_,_,_,_,_,_,_,_,_,_,_,_,_,_,_,_,_,_,_,_,_,_,_,_,_,_], defers := _ } _
      clear H1
      refine wpAnyH_ready (rs := [8]) (by kernel_rfl) (by simp) ?_
      refine AllReadyH.cons rfl (fun KK hK => ?_) AllReadyH.nil
      go_simp
      refine (FC.out _ trivial).mono ?_
      rintro e w3 ⟨rfl, hlit, hlt3, hb⟩
      have H3 : OnlyB g v2 w3 := H2.below hb
      have R3 := hrow2.below hb
      have S3 : v2.heap.size ≤ w3.heap.size := H3.size
      have LL1 : ([d.nr] ++ flatL rgL d.R k ++ [V]).length = 1 + k * 37 + 1 := by rw [List.length_append, LL.out]; rfl
      obtain ⟨g4, c4, w4, hr4, hrow4, ho4, hg4⟩ := appL w3 v0.heap.size g2 c2' _ (numL 4 C) w2.heap.size 0 4 40 (Nat.le_trans BH.out S3) (by rw [LL1, numL_length]; omega) R3 hlit
      have LL2 : ([d.nr] ++ flatL rgL d.R k ++ [V] ++ numL 4 C).length = 1 + k * 37 + 1 + 4 := by rw [List.length_append, LL1, numL_length]
      rw [LL1, numL_length, LL2] at hr4
      have hr5 : ∀ ty, (Builtin.append_ #[40, 40] ty #[.slice (some ⟨g2, 0, none⟩) (1 + k * 37 + 1) c2', .slice (some ⟨w2.heap.size, 0, none⟩) 4 4]).run Tryd.prog w3 = .ok (.slice (some ⟨g4, 0, none⟩) (1 + k * 37 + 1 + 4) c4) w4 := fun ty => hr4
      have HG2 : g2 = g ∨ v2.heap.size ≤ g2 := by rcases hg2 with e | e; exact .inl e; exact .inr (Nat.le_trans S0.out e)
      have H4 : OnlyB g v2 w4 := H3.behind ho4 HG2
      have RZ : Hid (RL w4 v0.heap.size g4 c4 ([d.nr] ++ flatL rgL d.R k ++ [V] ++ numL 4 C)) := hrow4
      have HG4 : Hid (g4 = g ∨ v2.heap.size ≤ g4) := by
        show _ ∨ _
        rcases hg4 with e | e
        · rw [e]; exact HG2
        · right; rw [e]; exact S3
      clear hb hlit hr4 LL1 LL2 R3 S3 hrow4 ho4 hg4 HG2 hrow2 ho2 hg2 hlt3
      refine hK.out _ _ H3 (fun _ => ?_)
      clear hK KK
      change wpAnyH _ _ _ _ _ _ _ { tmps := #[_,_,_,_,_,_,_,_,_,_,_,_,_,_,_,_,_,_,_,_,_,_,_,_,_,_,_,_,_,_,_,_,_,_,_,_,_,_,_,_,_,_,_,_,_,_,_,_,_,_,_,_,_,_,_,_,_,_,_,_,_,_,_,_,_,_,_,_,_,_,_,_,_,_,_,_,_,_], defers := _ } _
      clear H2
      refine wpAnyH_ready (rs := [9]) (by kernel_rfl) (by simp) ?_
      refine AllReadyH.cons rfl (fun KK hK => ?_) AllReadyH.nil
      rw [if_pos (by rfl)]
      refine Lib.wp_append_run _ (.tmp 30) (.tmp 33) 40 40 rfl (.slice (some ⟨g2, 0, none⟩) (1 + k * 37 + 1) c2') (.slice (some ⟨w2.heap.size, 0, none⟩) 4 4) rfl rfl _ _ (hr5 _) ?_
      clear hr5
      refine hK.out _ _ H4 (fun _ => ?_)
      clear hK KK
      change wpAnyH _ _ _ _ _ _ _ { tmps := #[_,_,_,_,_,_,_,_,_,_,_,_,_,_,_,_,_,_,_,_,_,_,_,_,_,_,_,_,_,_,_,_,_,_,_,_,_,_,_,_,_,_,_,_,_,_,_,_,_,_,_,_,_,_,_,_,_,_,_,_,_,_,_,_,_,_,_,_,_,_,_,_,_,_,_,_,_,_], defers := _ } _
      clear H3
      have H := H4
      refine wpAnyH_take (i := 10) (v := .slice (some ⟨g4, 0, none⟩) (1 + k * 37 + 1 + 4) c4) rfl (by kernel_rfl) (by kernel_rfl) (by kernel_rfl) (fun _ _ _ h => h) (Or.inl ⟨by rfl, ?_⟩) H ?_
      · intro w' hSw; clear hSw; go_simp
      change wpAnyH _ _ _ _ _ _ _ { tmps := #[_,_,_,_,_,_,_,_,_,_,_,_,_,_,_,_,_,_,_,_,_,_,_,_,_,_,_,_,_,_,_,_,_,_,_,_,_,_,_,_,_,_,_,_,_,_,_,_,_,_,_,_,_,_,_,_,_,_,_,_,_,_,_,_,_,_,_,_,_,_,_,_,_,_,_,_,_,_], defers := _ } _
      refine wpAnyH_done (by kernel_rfl) ?_ _
      refine NoPanic.normal ?_
      have OZ : Hid (OnlyB g v2 w4) := H4
      clear H H4 R0 S0
      clear H0
      have Y4 : Box3 w4 rb 54 (.int .i64 (V : Int)) (.int .i64 (C : Int)) (.string T) := Y.out.ofBlock (OZ.out.block _ Y.out.lt (fun e => NG.out e.symm))
      have y2 := Y4.c2
      have B4 : Hid (Below v0.heap.size v0 w4) := B2.out.trans (OZ.out.toBelow R2.out.ge.1 B2.out.size)
      have L4 : ([d.nr] ++ flatL rgL d.R k ++ [V] ++ numL 4 C).length = 1 + k * 37 + 1 + 4 := by rw [List.length_append, List.length_append, LL.out, numL_length]; rfl
      obtain ⟨g5, c5, w5, hr5, hrow5, ho5⟩ := appT w4 v0.heap.size g4 c4 _ T 40 B4.out.size (by rw [L4, S32.out]; omega) RZ.out
      have L5 : ([d.nr] ++ flatL rgL d.R k ++ [V] ++ numL 4 C ++ strL T).length = 1 + (k + 1) * 37 := by rw [List.length_append, L4, strL_length, S32.out]; omega
      rw [L4, L5] at hr5
      have hr6 : ∀ ty, (Builtin.append_ #[40, 9] ty #[.slice (some ⟨g4, 0, none⟩) (1 + k * 37 + 1 + 4) c4, .string T]).run Tryd.prog w4 = .ok (.slice (some ⟨g5, 0, none⟩) (1 + (k + 1) * 37) c5) w5 := fun ty => hr5
      have R5 : Hid (RL w5 v0.heap.size g5 c5 ([d.nr] ++ flatL rgL d.R (k + 1))) := by
        show RL _ _ _ _ _
        rw [EF.out, RK2.out]
        simpa [List.append_assoc] using hrow5
      have B5 : Hid (Below v0.heap.size v0 w5) := B4.out.trans (ho5.toBelow RZ.out.ge.1 B4.out.size)
      clear Y4 hrow5 ho5 L4 L5 R2 B2 B4 Y NG RBL EF RK2 S32 hr5 FC OZ RZ HG4 BH LL
      go_wp2_with (at_builtin; refine Lib.wpList_append_run _ rfl (.tmp 35) (.tmp 37) 40 9 rfl (.slice (some ⟨g4, 0, none⟩) (1 + k * 37 + 1 + 4) c4) (.string T) rfl rfl _ _ (hr6 _) ?_)
      go_roundw
      case rel => exact ⟨k + 1, g5, c5, by omega, by go_num, rfl, R5.out, B5.out⟩
      case measure => simp [intOf]; omega
    · obtain rfl : k = d.nr := by omega
      have hlt' : ¬ (d.nr : Int) < (d.nr : Int) := by omega
      have x1 := (X.out.below hb).c1
      have y1 : (d.ns : Int) % 256 = (d.ns : Int) := by omega
      have LL : ([d.nr] ++ flatL rgL d.R d.nr).length = 1 + d.nr * 37 := by rw [List.length_append, flatL_rg HD.out d.nr (Nat.le_refl _)]; rfl
      obtain ⟨g2, c2', w2, hr2, hrow2, ho2, hg2⟩ := app1 wr v0.heap.size g c (1 + d.nr * 37) _ d.ns HB.out.size LL.symm (by omega) HR.out
      have B2 : Hid (Below v0.heap.size v0 w2) := HB.out.trans (ho2.toBelow HR.out.ge.1 HB.out.size)
      have R2 : Hid (RL w2 v0.heap.size g2 c2' ([d.nr] ++ flatL rgL d.R d.nr ++ [d.ns])) := hrow2
      have LM : Hid (([d.nr] ++ flatL rgL d.R d.nr ++ [d.ns]).length = 1 + d.nr * 37 + 1) := by show _ = _; rw [List.length_append, LL]; rfl
      clear hrow2 ho2 hg2 hrow HR LL hb hlt hk
      go_wp2_with (at_builtin; refine Lib.wpList_append_run _ rfl (.tmp 39) (.tmp 44) 40 40 rfl (.slice (some ⟨g, 0, none⟩) (1 + d.nr * 37) c) (.slice (some ⟨wr.heap.size, 0, none⟩) 1 1) rfl rfl _ _ (hr2 _) ?_)
      clear hr2 x1 x0' HB
      generalize hLA : [d.nr] ++ flatL rgL d.R d.nr ++ [d.ns] = LA at *
      have HLA : Hid ([d.nr] ++ flatL rgL d.R d.nr ++ [d.ns] = LA) := hLA
      clear hLA
      generalize hm0 : 1 + d.nr * 37 + 1 = m0 at *
      have m1 : m0 ≤ 300 := by omega
      have HM : Hid (1 + d.nr * 37 + 1 = m0) := hm0
      clear hm0
      go_loopw [3, 6] (fun s i wr => ∃ k g c : Nat, k ≤ d.ns ∧ i = .int .i64 k ∧ s = .slice (some ⟨g, 0, none⟩) (m0 + k * 9) c ∧ RL wr v0.heap.size g c (LA ++ flatL seL d.S k) ∧ Below v0.heap.size v0 wr) (fun _ i _ => d.ns - (intOf i).toNat)
      case atStart => exact ⟨0, g2, c2', by omega, rfl, rfl, by simpa [flatL] using R2.out, B2.out⟩
      case round =>
        clear R2 B2
        obtain ⟨k, g, c, hk, rfl, rfl, hrow, hb⟩ := hrel
        have HR : Hid (RL wr v0.heap.size g c (LA ++ flatL seL d.S k)) := hrow
        have HB : Hid (Below v0.heap.size v0 wr) := hb
        have LL : Hid ((LA ++ flatL seL d.S k).length = m0 + k * 9) := by show _ = _; rw [List.length_append, flatL_se, LM.out]
        have x1 := (X.out.below hb).c1
        by_cases hlt : k < d.ns
        · have hlt' : (k : Int) < (d.ns : Int) := by omega
          obtain ⟨b, off, ha, hc⟩ := (VS.out.below hb).opened (by omega)
          cases ha
          obtain ⟨c0, c1, c2, c3⟩ := Els.seC hc k hlt
          have hok := (HD.out.2.2 k hlt).1
          obtain ⟨I, hI⟩ := Int.eq_ofNat_of_zero_le hok.1.1.1
          obtain ⟨Q, hQ⟩ := Int.eq_ofNat_of_zero_le (show 0 ≤ (d.S k).sq by have := hok.1.2.1; omega)
          obtain ⟨C, hC⟩ := Int.eq_ofNat_of_zero_le hok.2.1.1
          obtain ⟨M, hM⟩ := Int.eq_ofNat_of_zero_le hok.2.2.1
          have hI2 : I ≤ 65535 := by have := hok.1.1.2; omega
          have hQ2 : Q ≤ 65535 := by have := hok.1.2.2; omega
          have hC2 : C ≤ 19 := by have := hok.2.1.2; omega
          have hM2 : M ≤ 1000000 := by have := hok.2.2.2; omega
          have EF : Hid (flatL seL d.S (k + 1) = flatL seL d.S k ++ (numL 2 I ++ numL 2 Q ++ [C] ++ numL 4 M)) := by
            show flatL seL d.S k ++ seL (d.S k) = _
            unfold seL
            rw [hI, hQ, hC, hM]
            rfl
          rw [hI] at c0
          rw [hQ] at c1
          rw [hC] at c2
          rw [hM] at c3
          have yC : (C : Int) % 256 = (C : Int) := by omega
          have wC : IntKind.u8.wrap (C : Int) = (C : Int) := IntWalk.u8_in _ (by omega)
          clear hok hc hb hI hQ hC hM
          obtain ⟨v2, hv2⟩ : ∃ v2, v2 = wr.alloc (.cells #[.int .i64 (I : Int), .int .i64 (Q : Int), .int .i64 (C : Int), .int .i64 (M : Int)] 100) := ⟨_, rfl⟩
          have hbr : Below wr.heap.size wr v2 := by rw [hv2]; exact (Below.refl _ _).alloc (Nat.le_refl _) _
          have Y : Hid (Box4 v2 wr.heap.size 100 (.int .i64 (I : Int)) (.int .i64 (Q : Int)) (.int .i64 (C : Int)) (.int .i64 (M : Int))) := by show Box4 _ _ _ _ _ _ _; rw [hv2]; exact Box4.madeAt rfl _ _ _ _ _
          have gl := HR.out.ge
          have B2 : Hid (Below v0.heap.size v0 v2) := HB.out.trans (hbr.mono HB.out.size)
          have BH : Hid (v0.heap.size ≤ v2.heap.size) := B2.out.size
          have R2 : Hid (RL v2 v0.heap.size g c (LA ++ flatL seL d.S k)) := HR.out.below hbr
          have NG : Hid (g ≠ wr.heap.size) := by show _ ≠ _; omega
          have RBL : Hid (wr.heap.size < v2.heap.size) := Y.out.lt
          have kk : k * 9 ≤ 54 := by omega
          have TI : Hid (∀ (w : World) (_ : True), Calls Tryd.prog 99 #[.int .i64 (I : Int)] w fun e w' => e = .returned (.slice (some ⟨w.heap.size, 0, none⟩) 2 2) ∧ LitL w' w.heap.size (numL 2 I) ∧ w.heap.size < w'.heap.size ∧ Below w.heap.size w w') := fun w _ => TW.out I w hI2
          have TQ : Hid (∀ (w : World) (_ : True), Calls Tryd.prog 99 #[.int .i64 (Q : Int)] w fun e w' => e = .returned (.slice (some ⟨w.heap.size, 0, none⟩) 2 2) ∧ LitL w' w.heap.size (numL 2 Q) ∧ w.heap.size < w'.heap.size ∧ Below w.heap.size w w') := fun w _ => TW.out Q w hQ2
          have FM : Hid (∀ (w : World) (_ : True), Calls Tryd.prog 98 #[.int .i64 (M : Int)] w fun e w' => e = .returned (.slice (some ⟨w.heap.size, 0, none⟩) 4 4) ∧ LitL w' w.heap.size (numL 4 M) ∧ w.heap.size < w'.heap.size ∧ Below w.heap.size w w') := fun w _ => FO.out M w hM2
          clear hrow HR hbr gl
          go_wp2_with fail
          rw [← hv2]
          generalize wr.heap.size = rb at *
          clear hv2 HB c0 c1 c2 c3 x1
          have H : OnlyB g v2 v2.drew := (OnlyB.refl _ _).below ((Below.refl _ _).drew)
          have R0 : Hid (RL v2.drew v0.heap.size g c (LA ++ flatL seL d.S k)) := R2.out.below ((Below.refl _ _).drew)
          have S0 : Hid (v2.heap.size ≤ v2.drew.heap.size) := Nat.le_refl _
          refine wp_region_noPanic ?_
          refine wp_region_held_drew (S := fun w' => OnlyB g v2 w') (by kernel_rfl) H (fun _ => ?_)
          generalize v2.drew = x0 at *
          refine wpAnyH_take (i := 0) (v := .slice (some ⟨g, 0, none⟩) (m0 + k * 9) c) rfl (by kernel_rfl) (by kernel_rfl) (by kernel_rfl) (fun _ _ _ h => h) (Or.inl ⟨by rfl, ?_⟩) H ?_
          · intro w' hSw; clear hSw; go_simp
          change wpAnyH _ _ _ _ _ _ _ { tmps := #[_,_,_,_,_,_,_,_,_,_,_,_,_,_,_,_,_,_,_,_,_,_,_,_,_,_,_,_,_,_,_,_,_,_,_,_,_,_,_,_,_,_,_,_,_,_,_,_,_,_,_,_,_,_,_,_,_,_,_,_,_,_,_,_,_,_,_,_,_,_,_,_,_,_,_,_,_,_], defers := _ } _
          refine wpAnyH_take (i := 1) (v := .pointer (some ⟨rb, 0, none⟩)) rfl (by kernel_rfl) (by kernel_rfl) (by kernel_rfl) (fun _ _ _ h => h) (Or.inl ⟨by rfl, ?_⟩) H ?_
          · intro w' hSw; clear hSw; go_simp
          change wpAnyH _ _ _ _ _ _ _ { tmps := #[_,_,_,_,_,_,_,_,_,_,_,_,_,_,_,_,_,_,_,_,_,_,_,_,_,_,_,_,_,_,_,_,_,_,_,_,_,_,_,_,_,_,_,_,_,_,_,_,_,_,_,_,_,_,_,_,_,_,_,_,_,_,_,_,_,_,_,_,_,_,_,_,_,_,_,_,_,_], defers := _ } _
          refine wpAnyH_take (i := 2) (v := .int .i64 (I : Int)) rfl (by kernel_rfl) (by kernel_rfl) (by kernel_rfl) (fun _ _ _ h => h) (Or.inl ⟨by rfl, ?_⟩) H ?_
          · intro w' hSw; have t0 := (Y.out.ofBlock (hSw.block _ Y.out.lt (fun e => NG.out e.symm))).c0; clear hSw; go_simp
          change wpAnyH _ _ _ _ _ _ _ { tmps := #[_,_,_,_,_,_,_,_,_,_,_,_,_,_,_,_,_,_,_,_,_,_,_,_,_,_,_,_,_,_,_,_,_,_,_,_,_,_,_,_,_,_,_,_,_,_,_,_,_,_,_,_,_,_,_,_,_,_,_,_,_,_,_,_,_,_,_,_,_,_,_,_,_,_,_,_,_,_], defers := _ } _
          refine wpAnyH_take (i := 5) (v := .pointer (some ⟨rb, 1, none⟩)) rfl (by kernel_rfl) (by kernel_rfl) (by kernel_rfl) (fun _ _ _ h => h) (Or.inl ⟨by rfl, ?_⟩) H ?_
          · intro w' hSw; clear hSw; go_simp
          change wpAnyH _ _ _ _ _ _ _ { tmps := #[_,_,_,_,_,_,_,_,_,_,_,_,_,_,_,_,_,_,_,_,_,_,_,_,_,_,_,_,_,_,_,_,_,_,_,_,_,_,_,_,_,_,_,_,_,_,_,_,_,_,_,_,_,_,_,_,_,_,_,_,_,_,_,_,_,_,_,_,_,_,_,_,_,_,_,_,_,_], defers := _ } _
          refine wpAnyH_take (i := 6) (v := .int .i64 (Q : Int)) rfl (by kernel_rfl) (by kernel_rfl) (by kernel_rfl) (fun _ _ _ h => h) (Or.inl ⟨by rfl, ?_⟩) H ?_
          · intro w' hSw; have t0 := (Y.out.ofBlock (hSw.block _ Y.out.lt (fun e => NG.out e.symm))).c1; clear hSw; go_simp
          change wpAnyH _ _ _ _ _ _ _ { tmps := #[_,_,_,_,_,_,_,_,_,_,_,_,_,_,_,_,_,_,_,_,_,_,_,_,_,_,_,_,_,_,_,_,_,_,_,_,_,_,_,_,_,_,_,_,_,_,_,_,_,_,_,_,_,_,_,_,_,_,_,_,_,_,_,_,_,_,_,_,_,_,_,_,_,_,_,_,_,_], defers := _ } _
          refine wpAnyH_ready (rs := [3]) (by kernel_rfl) (by simp) ?_
          refine AllReadyH.cons rfl (fun KK hK => ?_) AllReadyH.nil
          go_simp
          refine (TI.out _ trivial).mono ?_
          rintro e x1 ⟨rfl, hlit, hlt1, hb⟩
          have H1 : OnlyB g v2 x1 := H.below hb
          have R1 := R0.out.below hb
          have S1 : v2.heap.size ≤ x1.heap.size := Nat.le_trans S0.out hb.size
          obtain ⟨g2, c2', w2, hr2, hrow2, ho2, hg2⟩ := appL x1 v0.heap.size g c _ (numL 2 I) x0.heap.size 0 2 40 (Nat.le_trans BH.out S1) (by rw [LL.out, numL_length]; omega) R1 hlit
          have L1 : (LA ++ flatL seL d.S k ++ numL 2 I).length = m0 + k * 9 + 2 := by rw [List.length_append, LL.out, numL_length]
          rw [LL.out, numL_length, L1] at hr2
          have hr3 : ∀ ty, (Builtin.append_ #[40, 40] ty #[.slice (some ⟨g, 0, none⟩) (m0 + k * 9) c, .slice (some ⟨x0.heap.size, 0, none⟩) 2 2]).run Tryd.prog x1 = .ok (.slice (some ⟨g2, 0, none⟩) (m0 + k * 9 + 2) c2') w2 := fun ty => hr2
          replace hg2 : g2 = g ∨ x0.heap.size ≤ g2 := by rcases hg2 with e | e; exact .inl e; exact .inr (by rw [e]; exact hb.size)
          clear hb hlit hr2 L1
          refine hK.out _ _ H1 (fun _ => ?_)
          clear hK KK
          change wpAnyH _ _ _ _ _ _ _ { tmps := #[_,_,_,_,_,_,_,_,_,_,_,_,_,_,_,_,_,_,_,_,_,_,_,_,_,_,_,_,_,_,_,_,_,_,_,_,_,_,_,_,_,_,_,_,_,_,_,_,_,_,_,_,_,_,_,_,_,_,_,_,_,_,_,_,_,_,_,_,_,_,_,_,_,_,_,_,_,_], defers := _ } _
          clear H
          have H2 : OnlyB g v2 w2 := H1.behind ho2 (.inl rfl)
          refine wpAnyH_ready (rs := [4]) (by kernel_rfl) (by simp) ?_
          refine AllReadyH.cons rfl (fun KK hK => ?_) AllReadyH.nil
          rw [if_pos (by rfl)]
          refine Lib.wp_append_run _ (.tmp 58) (.tmp 61) 40 40 rfl (.slice (some ⟨g, 0, none⟩) (m0 + k * 9) c) (.slice (some ⟨x0.heap.size, 0, none⟩) 2 2) rfl rfl _ _ (hr3 _) ?_
          clear hr3
          refine hK.out _ _ H2 (fun _ => ?_)
          clear hK KK
          change wpAnyH _ _ _ _ _ _ _ { tmps := #[_,_,_,_,_,_,_,_,_,_,_,_,_,_,_,_,_,_,_,_,_,_,_,_,_,_,_,_,_,_,_,_,_,_,_,_,_,_,_,_,_,_,_,_,_,_,_,_,_,_,_,_,_,_,_,_,_,_,_,_,_,_,_,_,_,_,_,_,_,_,_,_,_,_,_,_,_,_], defers := _ } _
          clear H1
          refine wpAnyH_ready (rs := [7]) (by kernel_rfl) (by simp) ?_
          refine AllReadyH.cons rfl (fun KK hK => ?_) AllReadyH.nil
          go_simp
          refine (TQ.out _ trivial).mono ?_
          rintro e w3 ⟨rfl, hlit, hlt3, hb⟩
          have H3 : OnlyB g v2 w3 := H2.below hb
          have R3 := hrow2.below hb
          have S3 : v2.heap.size ≤ w3.heap.size := H3.size
          have LL1 : (LA ++ flatL seL d.S k ++ numL 2 I).length = m0 + k * 9 + 2 := by rw [List.length_append, LL.out]; rw [numL_length]
          obtain ⟨g4, c4, w4, hr4, hrow4, ho4, hg4⟩ := appL w3 v0.heap.size g2 c2' _ (numL 2 Q) w2.heap.size 0 2 40 (Nat.le_trans BH.out S3) (by rw [LL1, numL_length]; omega) R3 hlit
          have LL2 : (LA ++ flatL seL d.S k ++ numL 2 I ++ numL 2 Q).length = m0 + k * 9 + 2 + 2 := by rw [List.length_append, LL1, numL_length]
          rw [LL1, numL_length, LL2] at hr4
          have hr5 : ∀ ty, (Builtin.append_ #[40, 40] ty #[.slice (some ⟨g2, 0, none⟩) (m0 + k * 9 + 2) c2', .slice (some ⟨w2.heap.size, 0, none⟩) 2 2]).run Tryd.prog w3 = .ok (.slice (some ⟨g4, 0, none⟩) (m0 + k * 9 + 2 + 2) c4) w4 := fun ty => hr4
          have HG2 : g2 = g ∨ v2.heap.size ≤ g2 := by rcases hg2 with e | e; exact .inl e; exact .inr (Nat.le_trans S0.out e)
          have H4 : OnlyB g v2 w4 := H3.behind ho4 HG2
          have RZ : Hid (RL w4 v0.heap.size g4 c4 (LA ++ flatL seL d.S k ++ numL 2 I ++ numL 2 Q)) := hrow4
          have HG4 : Hid (g4 = g ∨ v2.heap.size ≤ g4) := by
            show _ ∨ _
            rcases hg4 with e | e
            · rw [e]; exact HG2
            · right; rw [e]; exact S3
          clear hb hlit hr4 LL1 LL2 R3 S3 hrow4 ho4 hg4 HG2 hrow2 ho2 hg2 hlt3
          refine hK.out _ _ H3 (fun _ => ?_)
          clear hK KK
          change wpAnyH _ _ _ _ _ _ _ { tmps := #[_,_,_,_,_,_,_,_,_,_,_,_,_,_,_,_,_,_,_,_,_,_,_,_,_,_,_,_,_,_,_,_,_,_,_,_,_,_,_,_,_,_,_,_,_,_,_,_,_,_,_,_,_,_,_,_,_,_,_,_,_,_,_,_,_,_,_,_,_,_,_,_,_,_,_,_,_,_], defers := _ } _
          clear H2
          refine wpAnyH_ready (rs := [8]) (by kernel_rfl) (by simp) ?_
          refine AllReadyH.cons rfl (fun KK hK => ?_) AllReadyH.nil
          rw [if_pos (by rfl)]
          refine Lib.wp_append_run _ (.tmp 62) (.tmp 65) 40 40 rfl (.slice (some ⟨g2, 0, none⟩) (m0 + k * 9 + 2) c2') (.slice (some ⟨w2.heap.size, 0, none⟩) 2 2) rfl rfl _ _ (hr5 _) ?_
          clear hr5
          refine hK.out _ _ H4 (fun _ => ?_)
          clear hK KK
          change wpAnyH _ _ _ _ _ _ _ { tmps := #[_,_,_,_,_,_,_,_,_,_,_,_,_,_,_,_,_,_,_,_,_,_,_,_,_,_,_,_,_,_,_,_,_,_,_,_,_,_,_,_,_,_,_,_,_,_,_,_,_,_,_,_,_,_,_,_,_,_,_,_,_,_,_,_,_,_,_,_,_,_,_,_,_,_,_,_,_,_], defers := _ } _
          clear H3
          have H := H4
          refine wpAnyH_take (i := 9) (v := .slice (some ⟨g4, 0, none⟩) (m0 + k * 9 + 2 + 2) c4) rfl (by kernel_rfl) (by kernel_rfl) (by kernel_rfl) (fun _ _ _ h => h) (Or.inl ⟨by rfl, ?_⟩) H ?_
          · intro w' hSw; clear hSw; go_simp
          change wpAnyH _ _ _ _ _ _ _ { tmps := #[_,_,_,_,_,_,_,_,_,_,_,_,_,_,_,_,_,_,_,_,_,_,_,_,_,_,_,_,_,_,_,_,_,_,_,_,_,_,_,_,_,_,_,_,_,_,_,_,_,_,_,_,_,_,_,_,_,_,_,_,_,_,_,_,_,_,_,_,_,_,_,_,_,_,_,_,_,_], defers := _ } _
          refine wpAnyH_done (by kernel_rfl) ?_ _
          refine NoPanic.normal ?_
          have OZ : Hid (OnlyB g v2 w4) := H4
          clear H H4 R0 S0
          have RY : Hid (RL w4 v0.heap.size g4 c4 (LA ++ flatL seL d.S k ++ numL 2 I ++ numL 2 Q)) := RZ.out
          have LY : Hid ((LA ++ flatL seL d.S k ++ numL 2 I ++ numL 2 Q).length = m0 + k * 9 + 2 + 2) := by show _ = _; rw [List.length_append, List.length_append, LL.out, numL_length, numL_length]
          have BY : Hid (Below v0.heap.size v0 w4) := B2.out.trans (OZ.out.toBelow R2.out.ge.1 B2.out.size)
          replace Y : Hid (Box4 w4 rb 100 (.int .i64 (I : Int)) (.int .i64 (Q : Int)) (.int .i64 (C : Int)) (.int .i64 (M : Int))) := Y.out.ofBlock (OZ.out.block _ Y.out.lt (fun e => NG.out e.symm))
          have NY : Hid (g4 ≠ rb) := by
            have h1 := NG.out
            have h2 := RBL.out
            show _ ≠ _
            rcases HG4.out with e | e <;> omega
          clear R2 B2 BH NG RBL TI TQ OZ RZ HG4 LL
          have R2 : Hid (RL w4 v0.heap.size g4 c4 (LA ++ flatL seL d.S k ++ numL 2 I ++ numL 2 Q)) := RY.out
          have LL : Hid ((LA ++ flatL seL d.S k ++ numL 2 I ++ numL 2 Q).length = m0 + k * 9 + 2 + 2) := LY.out
          have BH : Hid (v0.heap.size ≤ w4.heap.size) := BY.out.size
          have NG : Hid (g4 ≠ rb) := NY.out
          clear RY LY NY
          generalize hLB : LA ++ flatL seL d.S k ++ numL 2 I ++ numL 2 Q = LB at *
          have HLB : Hid (LA ++ flatL seL d.S k ++ numL 2 I ++ numL 2 Q = LB) := hLB
          clear hLB
          go_wp2_with fail
          generalize w4 = v3 at *
          generalize g4 = ga at *
          generalize c4 = ca at *
          have H : OnlyB ga v3 v3.drew := (OnlyB.refl _ _).below ((Below.refl _ _).drew)
          have R0 : Hid (RL v3.drew v0.heap.size ga ca (LB)) := R2.out.below ((Below.refl _ _).drew)
          have S0 : Hid (v3.heap.size ≤ v3.drew.heap.size) := Nat.le_refl _
          refine wp_region_noPanic ?_
          refine wp_region_held_drew (S := fun w' => OnlyB ga v3 w') (by kernel_rfl) H (fun _ => ?_)
          generalize v3.drew = x0 at *
          have H0 : Hid (OnlyB ga v3 x0) := H
          refine wpAnyH_take (i := 0) (v := .slice (some ⟨ga, 0, none⟩) (m0 + k * 9 + 2 + 2) ca) rfl (by kernel_rfl) (by kernel_rfl) (by kernel_rfl) (fun _ _ _ h => h) (Or.inl ⟨by rfl, ?_⟩) H ?_
          · intro w' hSw; clear hSw; go_simp
          change wpAnyH _ _ _ _ _ _ _ { tmps := #[_,_,_,_,_,_,_,_,_,_,_,_,_,_,_,_,_,_,_,_,_,_,_,_,_,_,_,_,_,_,_,_,_,_,_,_,_,_,_,_,_,_,_,_,_,_,_,_,_,_,_,_,_,_,_,_,_,_,_,_,_,_,_,_,_,_,_,_,_,_,_,_,_,_,_,_,_,_], defers := _ } _
          refine wpAnyH_take (i := 1) (v := .pointer (some ⟨rb, 2, none⟩)) rfl (by kernel_rfl) (by kernel_rfl) (by kernel_rfl) (fun _ _ _ h => h) (Or.inl ⟨by rfl, ?_⟩) H ?_
          · intro w' hSw; clear hSw; go_simp
          change wpAnyH _ _ _ _ _ _ _ { tmps := #[_,_,_,_,_,_,_,_,_,_,_,_,_,_,_,_,_,_,_,_,_,_,_,_,_,_,_,_,_,_,_,_,_,_,_,_,_,_,_,_,_,_,_,_,_,_,_,_,_,_,_,_,_,_,_,_,_,_,_,_,_,_,_,_,_,_,_,_,_,_,_,_,_,_,_,_,_,_], defers := _ } _
          refine wpAnyH_take (i := 2) (v := .int .i64 (C : Int)) rfl (by kernel_rfl) (by kernel_rfl) (by kernel_rfl) (fun _ _ _ h => h) (Or.inl ⟨by rfl, ?_⟩) H ?_
          · intro w' hSw; have t0 := (Y.out.ofBlock (hSw.block _ Y.out.lt (fun e => NG.out e.symm))).c2; clear hSw; go_simp
          change wpAnyH _ _ _ _ _ _ _ { tmps := #[_,_,_,_,_,_,_,_,_,_,_,_,_,_,_,_,_,_,_,_,_,_,_,_,_,_,_,_,_,_,_,_,_,_,_,_,_,_,_,_,_,_,_,_,_,_,_,_,_,_,_,_,_,_,_,_,_,_,_,_,_,_,_,_,_,_,_,_,_,_,_,_,_,_,_,_,_,_], defers := _ } _
          refine wpAnyH_take (i := 3) (v := .int .u8 (C : Int)) rfl (by kernel_rfl) (by kernel_rfl) (by kernel_rfl) (fun _ _ _ h => h) (Or.inl ⟨by rfl, ?_⟩) H ?_
          · intro w' hSw; clear hSw; go_simp
          change wpAnyH _ _ _ _ _ _ _ { tmps := #[_,_,_,_,_,_,_,_,_,_,_,_,_,_,_,_,_,_,_,_,_,_,_,_,_,_,_,_,_,_,_,_,_,_,_,_,_,_,_,_,_,_,_,_,_,_,_,_,_,_,_,_,_,_,_,_,_,_,_,_,_,_,_,_,_,_,_,_,_,_,_,_,_,_,_,_,_,_], defers := _ } _
          obtain ⟨g2, c2', w2, hr2, hrow2, ho2, hg2⟩ := app1 x0 v0.heap.size ga ca (m0 + k * 9 + 2 + 2) _ C (Nat.le_trans BH.out S0.out) LL.out.symm (by omega) R0.out
          refine wpAnyH_take (i := 6) (v := .pointer (some ⟨rb, 3, none⟩)) rfl (by kernel_rfl) (by kernel_rfl) (by kernel_rfl) (fun _ _ _ h => h) (Or.inl ⟨by rfl, ?_⟩) H ?_
          · intro w' hSw; clear hSw; go_simp
          change wpAnyH _ _ _ _ _ _ _ { tmps := #[_,_,_,_,_,_,_,_,_,_,_,_,_,_,_,_,_,_,_,_,_,_,_,_,_,_,_,_,_,_,_,_,_,_,_,_,_,_,_,_,_,_,_,_,_,_,_,_,_,_,_,_,_,_,_,_,_,_,_,_,_,_,_,_,_,_,_,_,_,_,_,_,_,_,_,_,_,_], defers := _ } _
          refine wpAnyH_take (i := 7) (v := .int .i64 (M : Int)) rfl (by kernel_rfl) (by kernel_rfl) (by kernel_rfl) (fun _ _ _ h => h) (Or.inl ⟨by rfl, ?_⟩) H ?_
          · intro w' hSw; have t0 := (Y.out.ofBlock (hSw.block _ Y.out.lt (fun e => NG.out e.symm))).c3; clear hSw; go_simp
          change wpAnyH _ _ _ _ _ _ _ { tmps := #[_,_,_,_,_,_,_,_,_,_,_,_,_,_,_,_,_,_,_,_,_,_,_,_,_,_,_,_,_,_,_,_,_,_,_,_,_,_,_,_,_,_,_,_,_,_,_,_,_,_,_,_,_,_,_,_,_,_,_,_,_,_,_,_,_,_,_,_,_,_,_,_,_,_,_,_,_,_], defers := _ } _
          refine wpAnyH_ready (rs := [4]) (by kernel_rfl) (by simp) ?_
          refine AllReadyH.cons rfl (fun KK hK => ?_) AllReadyH.nil
          go_simp
          have H1 : OnlyB ga v3 (x0.alloc (.cells #[.int .u8 ((C : Nat) : Int)] 5)) := H.below ((Below.refl _ _).alloc (Nat.le_refl _) _)
          refine hK.out _ _ H1 (fun _ => ?_)
          clear hK KK
          change wpAnyH _ _ _ _ _ _ _ { tmps := #[_,_,_,_,_,_,_,_,_,_,_,_,_,_,_,_,_,_,_,_,_,_,_,_,_,_,_,_,_,_,_,_,_,_,_,_,_,_,_,_,_,_,_,_,_,_,_,_,_,_,_,_,_,_,_,_,_,_,_,_,_,_,_,_,_,_,_,_,_,_,_,_,_,_,_,_,_,_], defers := _ } _
          clear H
          have H2 : OnlyB ga v3 w2 := H0.out.behind ho2 (.inl rfl)
          refine wpAnyH_ready (rs := [5]) (by kernel_rfl) (by simp) ?_
          refine AllReadyH.cons rfl (fun KK hK => ?_) AllReadyH.nil
          rw [if_pos (by rfl)]
          refine Lib.wp_append_run _ (.tmp 67) (.tmp 71) 40 40 rfl (.slice (some ⟨ga, 0, none⟩) (m0 + k * 9 + 2 + 2) ca) (.slice (some ⟨x0.heap.size, 0, none⟩) 1 1) rfl rfl _ _ (hr2 _) ?_
          clear hr2
          refine hK.out _ _ H2 (fun _ => ?_)
          clear hK KK
          change wpAnyH _ _ _ _ _ _ _ { tmps := #[_,_,_,_,_,_,_,_,_,_,_,_,_,_,_,_,_,_,_,_,_,_,_,_,_,_,_,_,_,_,_,_,_,_,_,_,_,_,_,_,_,_,_,_,_,_,_,_,_,_,_,_,_,_,_,_,_,_,_,_,_,_,_,_,_,_,_,_,_,_,_,_,_,_,_,_,_,_], defers := _ } _
          clear H1
          refine wpAnyH_ready (rs := [8]) (by kernel_rfl) (by simp) ?_
          refine AllReadyH.cons rfl (fun KK hK => ?_) AllReadyH.nil
          go_simp
          refine (FM.out _ trivial).mono ?_
          rintro e w3 ⟨rfl, hlit, hlt3, hb⟩
          have H3 : OnlyB ga v3 w3 := H2.below hb
          have R3 := hrow2.below hb
          have S3 : v3.heap.size ≤ w3.heap.size := H3.size
          have LL1 : (LB ++ [C]).length = m0 + k * 9 + 2 + 2 + 1 := by rw [List.length_append, LL.out]; rfl
          obtain ⟨g4, c4, w4, hr4, hrow4, ho4, hg4⟩ := appL w3 v0.heap.size g2 c2' _ (numL 4 M) w2.heap.size 0 4 40 (Nat.le_trans BH.out S3) (by rw [LL1, numL_length]; omega) R3 hlit
          have LL2 : (LB ++ [C] ++ numL 4 M).length = m0 + k * 9 + 2 + 2 + 1 + 4 := by rw [List.length_append, LL1, numL_length]
          rw [LL1, numL_length, LL2] at hr4
          have hr5 : ∀ ty, (Builtin.append_ #[40, 40] ty #[.slice (some ⟨g2, 0, none⟩) (m0 + k * 9 + 2 + 2 + 1) c2', .slice (some ⟨w2.heap.size, 0, none⟩) 4 4]).run Tryd.prog w3 = .ok (.slice (some ⟨g4, 0, none⟩) (m0 + k * 9 + 2 + 2 + 1 + 4) c4) w4 := fun ty => hr4
          have HG2 : g2 = ga ∨ v3.heap.size ≤ g2 := by rcases hg2 with e | e; exact .inl e; exact .inr (Nat.le_trans S0.out e)
          have H4 : OnlyB ga v3 w4 := H3.behind ho4 HG2
          have RZ : Hid (RL w4 v0.heap.size g4 c4 (LB ++ [C] ++ numL 4 M)) := hrow4
          have HG4 : Hid (g4 = ga ∨ v3.heap.size ≤ g4) := by
            show _ ∨ _
            rcases hg4 with e | e
            · rw [e]; exact HG2
            · right; rw [e]; exact S3
          clear hb hlit hr4 LL1 LL2 R3 S3 hrow4 ho4 hg4 HG2 hrow2 ho2 hg2 hlt3
          refine hK.out _ _ H3 (fun _ => ?_)
          clear hK KK
          change wpAnyH _ _ _ _ _ _ _ { tmps := #[_,_,_,_,_,_,_,_,_,_,_,_,_,_,_,_,_,_,_,_,_,_,_,_,_,_,_,_,_,_,_,_,_,_,_,_,_,_,_,_,_,_,_,_,_,_,_,_,_,_,_,_,_,_,_,_,_,_,_,_,_,_,_,_,_,_,_,_,_,_,_,_,_,_,_,_,_,_], defers := _ } _
          clear H2
          refine wpAnyH_ready (rs := [9]) (by kernel_rfl) (by simp) ?_
          refine AllReadyH.cons rfl (fun KK hK => ?_) AllReadyH.nil
          rw [if_pos (by rfl)]
          refine Lib.wp_append_run _ (.tmp 72) (.tmp 75) 40 40 rfl (.slice (some ⟨g2, 0, none⟩) (m0 + k * 9 + 2 + 2 + 1) c2') (.slice (some ⟨w2.heap.size, 0, none⟩) 4 4) rfl rfl _ _ (hr5 _) ?_
          clear hr5
          refine hK.out _ _ H4 (fun _ => ?_)
          clear hK KK
          change wpAnyH _ _ _ _ _ _ _ { tmps := #[_,_,_,_,_,_,_,_,_,_,_,_,_,_,_,_,_,_,_,_,_,_,_,_,_,_,_,_,_,_,_,_,_,_,_,_,_,_,_,_,_,_,_,_,_,_,_,_,_,_,_,_,_,_,_,_,_,_,_,_,_,_,_,_,_,_,_,_,_,_,_,_,_,_,_,_,_,_], defers := _ } _
          clear H3
          have H := H4
          refine wpAnyH_take (i := 10) (v := .slice (some ⟨g4, 0, none⟩) (m0 + k * 9 + 2 + 2 + 1 + 4) c4) rfl (by kernel_rfl) (by kernel_rfl) (by kernel_rfl) (fun _ _ _ h => h) (Or.inl ⟨by rfl, ?_⟩) H ?_
          · intro w' hSw; clear hSw; go_simp
          change wpAnyH _ _ _ _ _ _ _ { tmps := #[_,_,_,_,_,_,_,_,_,_,_,_,_,_,_,_,_,_,_,_,_,_,_,_,_,_,_,_,_,_,_,_,_,_,_,_,_,_,_,_,_,_,_,_,_,_,_,_,_,_,_,_,_,_,_,_,_,_,_,_,_,_,_,_,_,_,_,_,_,_,_,_,_,_,_,_,_,_], defers := _ } _
          refine wpAnyH_done (by kernel_rfl) ?_ _
          refine NoPanic.normal ?_
          have OZ : Hid (OnlyB ga v3 w4) := H4
          clear H H4 R0 S0
          clear H0
          have B5 : Hid (Below v0.heap.size v0 w4) := BY.out.trans (OZ.out.toBelow R2.out.ge.1 BY.out.size)
          have R5 : Hid (RL w4 v0.heap.size g4 c4 (LA ++ flatL seL d.S (k + 1))) := by
            have h9 := RZ.out
            rw [← HLB.out] at h9
            show RL _ _ _ _ _
            rw [EF.out]
            simpa [List.append_assoc] using h9
          have E5 : Hid (m0 + k * 9 + 2 + 2 + 1 + 4 = m0 + (k + 1) * 9) := by show _ = _; omega
          clear R2 BH NG OZ RZ HG4 LL EF HLB FM Y BY
          go_wp2
          go_roundw
          case rel => exact ⟨k + 1, g4, c4, by omega, by go_num, by rw [E5.out], R5.out, B5.out⟩
          case measure => simp [intOf]; omega
        · obtain rfl : k = d.ns := by omega
          have hlt' : ¬ (d.ns : Int) < (d.ns : Int) := by omega
          have RZ : Hid (RL wr w.heap.size g c (bankL d)) := by
            show RL _ _ _ _ _
            unfold bankL
            rw [HLA.out]
            exact HR.out.mono A1.out.size
          have LZ : Hid ((bankL d).length = m0 + d.ns * 9) := by
            show _ = _
            unfold bankL
            rw [HLA.out, LL.out]
          clear hb hrow LL
          go_wp2
          go_ret
          exact ⟨⟨g, c, by rw [LZ.out]; rfl, RZ.out⟩, A1.out.trans (HB.out.mono A1.out.size)⟩
set_option maxRecDepth 100000 in
set_option maxHeartbeats 1000000 in
theorem specBankBytes_ok (d : Bk) (hd : d.Ok) (a0 a1 : Option Addr) (e0 e1 : Nat) (w : World) (h : BankV w d a0 a1) :
    Calls Tryd.prog 27 #[.agg #[.slice a0 d.nr e0, .slice a1 d.ns e1]] w fun e w' => (∃ g c, e = .returned (.tuple #[.slice (some ⟨g, 0, none⟩) (bankL d).length c, .int .i64 0]) ∧ RL w' w.heap.size g c (bankL d)) ∧ Below w.heap.size w w' := by
  have BO : Hid (∀ w : World, BankV w d a0 a1 → Calls Tryd.prog 62 #[.agg #[.slice a0 d.nr e0, .slice a1 d.ns e1]] w fun e w' => e = .returned (.bool true) ∧ Below w.heap.size w w') := fun w h => by
    have := specBankOK_any d a0 a1 e0 e1 w h
    rwa [okB_yes hd] at this
  have BY : Hid (∀ w : World, BankV w d a0 a1 → Calls Tryd.prog 63 #[.agg #[.slice a0 d.nr e0, .slice a1 d.ns e1]] w fun e w' => (∃ g c, e = .returned (.slice (some ⟨g, 0, none⟩) (bankL d).length c) ∧ RL w' w.heap.size g c (bankL d)) ∧ Below w.heap.size w w') := fun w h => l08Bytes_any d hd a0 a1 e0 e1 w h
  have HV : Hid (BankV w d a0 a1) := h
  have A1 : Hid (Below w.heap.size w (w.alloc (.cells #[.slice a0 d.nr e0, .slice a1 d.ns e1] 46))) := (Below.refl _ _).alloc (Nat.le_refl _) _
  have X : Hid (Box2 (w.alloc (.cells #[.slice a0 d.nr e0, .slice a1 d.ns e1] 46)) w.heap.size 46 (.slice a0 d.nr e0) (.slice a1 d.ns e1)) := Box2.made _ _ _ _
  generalize bankL d = LZ at *
  generalize LZ.length = nz at *
  clear h hd
  go_enter Tryd.func27, Tryd.ntmps27
  go_wp2_with fail
  generalize (w.alloc (.cells #[.slice a0 d.nr e0, .slice a1 d.ns e1] 46)) = v at *
  refine (BO.out _ (HV.out.below A1.out)).mono ?_
  rintro e v0 ⟨rfl, hb⟩
  replace A1 : Hid (Below w.heap.size w v0) := A1.out.trans (hb.mono A1.out.size)
  have x0 := (X.out.below hb).c0
  have x1 := (X.out.below hb).c1
  clear hb BO X
  go_wp2_with fail
  refine (BY.out _ (HV.out.below A1.out)).mono ?_
  rintro e v1 ⟨⟨g, c, rfl, hr⟩, hb⟩
  have R : Hid (RL v1 w.heap.size g c LZ) := hr.mono A1.out.size
  replace A1 : Hid (Below w.heap.size w v1) := A1.out.trans (hb.mono A1.out.size)
  clear hb BY x0 x1 hr HV
  go_wp2
  go_ret2
  exact ⟨⟨g, c, rfl, R.out⟩, A1.out⟩
end Go.Proofs.YtpngjkhncfbnpaaDoor
