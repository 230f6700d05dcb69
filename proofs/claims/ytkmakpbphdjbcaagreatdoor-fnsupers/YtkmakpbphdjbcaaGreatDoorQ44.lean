/-
  Texts of the proof, joined: Sealer.
-/
import Derived.Test.YtkmakpbphdjbcaaGreatDoorQ42
import Derived.Test.YtkmakpbphdjbcaaGreatDoorQ43
import Derived.Test.YtkmakpbphdjbcaaGreatDoorQ21
namespace Go.Proofs.YtkmakpbphdjbcaaGreatDoor
open Go.ChangeShapes Go.WideShapes Go.ChangeAt Go.RowKit
def slV (G : Nat → Nat) (s : ByteArray) (x : Value) (i : Nat) : Value := if i < 64 then .int .u8 (G i : Nat) else if i = 64 then .string s else x
def SealAt (w : World) (q : Nat) (G : Nat → Nat) (s : ByteArray) (x : Value) : Prop := w.rowIs q 88 66 (slV G s x)
theorem SealAt.below {w w' : World} {q : Nat} {G : Nat → Nat} {s : ByteArray} {x : Value} (h : SealAt w q G s x) (hb : Below w.heap.size w w') : SealAt w' q G s x := World.rowIs.of_block h (hb.block q (World.rowIs.lt h))
theorem SealAt.lt {w : World} {q : Nat} {G : Nat → Nat} {s : ByteArray} {x : Value} (h : SealAt w q G s x) : q < w.heap.size := World.rowIs.lt h
theorem SealAt.drew {w : World} {q : Nat} {G : Nat → Nat} {s : ByteArray} {x : Value} (h : SealAt w q G s x) : SealAt w.drew q G s x := h
theorem SealAt.part {w : World} {q : Nat} {G : Nat → Nat} {s : ByteArray} {x : Value} (h : SealAt w q G s x) (o m : Nat) (hm : o + m ≤ 64) : Code8 w (some ⟨q, o, none⟩) m (fun i => G (o + i)) := code8_of (fun i hi => by
  rw [World.rowIs.cell h (by omega)]
  unfold slV
  rw [if_pos (by omega)])
theorem SealAt.nonce {w : World} {q : Nat} {G : Nat → Nat} {s : ByteArray} {x : Value} (h : SealAt w q G s x) : w.cell? ⟨q, 64, none⟩ = some (.string s) := World.rowIs.cell h (i := 64) (by omega)
theorem SealAt.extra {w : World} {q : Nat} {G : Nat → Nat} {s : ByteArray} {x : Value} (h : SealAt w q G s x) : w.cell? ⟨q, 65, none⟩ = some x := World.rowIs.cell h (i := 65) (by omega)
theorem SealAt.there {w : World} {q : Nat} {G : Nat → Nat} {s : ByteArray} {x : Value} (h : SealAt w q G s x) : w.there q 0 64 := fun j hj => by
  rw [Nat.zero_add]
  exact ⟨by rw [World.rowIs.cell h (by omega)]; rfl, World.rowIs.frozen h j⟩
def streamF (k s : ByteArray) (f : Nat → Nat) : Nat → Nat := ctrF (Gf.ws (strB (encS k)) 8 (3 * 8 + 28)) (8 + 6) (strB s) f
set_option maxRecDepth 100000 in
set_option maxHeartbeats 2000000 in
theorem streamed_any (k s : ByteArray) (x : Value) (q b o n c : Nat) (f : Nat → Nat) (hs : s.size = 12) (hn : n ≤ 65536) (hf : ∀ i, f i < 256) (w : World) (h : SealAt w q (pairF k) s x) (hc : Code8 w (some ⟨b, o, none⟩) n f) :
    Calls Tryz.prog 56 #[.pointer (some ⟨q, 0, none⟩), .slice (some ⟨b, o, none⟩) n c] w fun e w' => RetC w w' e n (streamF k s f) ∧ Below w.heap.size w w' := by
  have CX : Hid (∀ w : World, Code8 w (some ⟨b, o, none⟩) n f → Calls Tryz.prog 69 #[.string (encS k), .string s, .slice (some ⟨b, o, none⟩) n c] w fun e w' => RetC2 w w' e n (streamF k s f) (.int .i64 0) ∧ Below w.heap.size w w') := fun w h => implCtrC_yes (encS k) s 8 b o n c f (.inr rfl) (by rw [encS_size]) hs hn hf w h
  have hE : kstr (fun i => pairF k (0 + i)) 0 32 = encS k := kstr_congr (fun i _ => by rw [Nat.zero_add, Nat.zero_add])
  have HE : Hid (kstr (fun i => pairF k (0 + i)) 0 32 = encS k) := hE
  have HS : Hid (SealAt w q (pairF k) s x) := h
  have HC : Hid (Code8 w (some ⟨b, o, none⟩) n f) := hc
  clear h hc hE hf
  generalize pairF k = G at *
  generalize encS k = E at *
  generalize streamF k s f = F at *
  go_enter Tryz.func56, Tryz.ntmps56
  go_upto_region 1 with fail
  have H := HS.out.drew
  refine wp_region_noPanic ?_
  refine wp_region_held_drew (S := fun w' => SealAt w' q G s x) (by kernel_rfl) H (fun _ => ?_)
  refine wpAnyH_take (i := 0) (v := .pointer (some ⟨q, 0, none⟩)) rfl (by kernel_rfl) (by kernel_rfl) (by kernel_rfl) (fun _ _ _ h => h) (Or.inl ⟨by rfl, ?_⟩) H ?_
  · intro w' hSw; go_simp
  change wpAnyH _ _ _ _ _ _ _ { tmps := #[_,_,_,_,_,_,_,_,_,_,_,_,_,_,_,_,_,_,_,_,_,_,_], defers := _ } _
  refine wpAnyH_take (i := 1) (v := .pointer (some ⟨q, 0, none⟩)) rfl (by kernel_rfl) (by kernel_rfl) (by kernel_rfl) (fun _ _ _ h => h) (Or.inl ⟨by rfl, ?_⟩) H ?_
  · intro w' hSw; go_simp
  change wpAnyH _ _ _ _ _ _ _ { tmps := #[_,_,_,_,_,_,_,_,_,_,_,_,_,_,_,_,_,_,_,_,_,_,_], defers := _ } _
  refine wpAnyH_take (i := 2) (v := .pointer (some ⟨q, 0, none⟩)) rfl (by kernel_rfl) (by kernel_rfl) (by kernel_rfl) (fun _ _ _ h => h) (Or.inl ⟨by rfl, ?_⟩) H ?_
  · intro w' hSw; go_simp
  change wpAnyH _ _ _ _ _ _ _ { tmps := #[_,_,_,_,_,_,_,_,_,_,_,_,_,_,_,_,_,_,_,_,_,_,_], defers := _ } _
  refine wpAnyH_take (i := 3) (v := .pointer (some ⟨q, 0, none⟩)) rfl (by kernel_rfl) (by kernel_rfl) (by kernel_rfl) (fun _ _ _ h => h) (Or.inl ⟨by rfl, ?_⟩) H ?_
  · intro w' hSw; go_simp
  change wpAnyH _ _ _ _ _ _ _ { tmps := #[_,_,_,_,_,_,_,_,_,_,_,_,_,_,_,_,_,_,_,_,_,_,_], defers := _ } _
  refine wpAnyH_take (i := 4) (v := .slice (some ⟨q, 0, none⟩) 32 32) rfl (by kernel_rfl) (by kernel_rfl) (by kernel_rfl) (fun _ _ _ h => h) (Or.inl ⟨by rfl, ?_⟩) H ?_
  · intro w' hSw; go_simp
  change wpAnyH _ _ _ _ _ _ _ { tmps := #[_,_,_,_,_,_,_,_,_,_,_,_,_,_,_,_,_,_,_,_,_,_,_], defers := _ } _
  refine wpAnyH_take (i := 5) (v := .string E) rfl (by kernel_rfl) (by kernel_rfl) (by kernel_rfl) (fun _ _ _ h => h) (Or.inl ⟨by rfl, ?_⟩) H ?_
  · intro w' hSw; have := kstr_of_code (c := 32) (hSw.part 0 32 (by omega)); rw [HE.out] at this; clear hSw; go_simp
  change wpAnyH _ _ _ _ _ _ _ { tmps := #[_,_,_,_,_,_,_,_,_,_,_,_,_,_,_,_,_,_,_,_,_,_,_], defers := _ } _
  refine wpAnyH_take (i := 6) (v := .pointer (some ⟨q, 0, none⟩)) rfl (by kernel_rfl) (by kernel_rfl) (by kernel_rfl) (fun _ _ _ h => h) (Or.inl ⟨by rfl, ?_⟩) H ?_
  · intro w' hSw; go_simp
  change wpAnyH _ _ _ _ _ _ _ { tmps := #[_,_,_,_,_,_,_,_,_,_,_,_,_,_,_,_,_,_,_,_,_,_,_], defers := _ } _
  refine wpAnyH_take (i := 7) (v := .pointer (some ⟨q, 0, none⟩)) rfl (by kernel_rfl) (by kernel_rfl) (by kernel_rfl) (fun _ _ _ h => h) (Or.inl ⟨by rfl, ?_⟩) H ?_
  · intro w' hSw; go_simp
  change wpAnyH _ _ _ _ _ _ _ { tmps := #[_,_,_,_,_,_,_,_,_,_,_,_,_,_,_,_,_,_,_,_,_,_,_], defers := _ } _
  refine wpAnyH_take (i := 8) (v := .pointer (some ⟨q, 64, none⟩)) rfl (by kernel_rfl) (by kernel_rfl) (by kernel_rfl) (fun _ _ _ h => h) (Or.inl ⟨by rfl, ?_⟩) H ?_
  · intro w' hSw; go_simp
  change wpAnyH _ _ _ _ _ _ _ { tmps := #[_,_,_,_,_,_,_,_,_,_,_,_,_,_,_,_,_,_,_,_,_,_,_], defers := _ } _
  refine wpAnyH_take (i := 9) (v := .string s) rfl (by kernel_rfl) (by kernel_rfl) (by kernel_rfl) (fun _ _ _ h => h) (Or.inl ⟨by rfl, ?_⟩) H ?_
  · intro w' hSw; have := hSw.nonce; clear hSw; go_simp
  change wpAnyH _ _ _ _ _ _ _ { tmps := #[_,_,_,_,_,_,_,_,_,_,_,_,_,_,_,_,_,_,_,_,_,_,_], defers := _ } _
  refine wpAnyH_take (i := 10) (v := .slice (some ⟨b, o, none⟩) n c) rfl (by kernel_rfl) (by kernel_rfl) (by kernel_rfl) (fun _ _ _ h => h) (Or.inl ⟨by rfl, ?_⟩) H ?_
  · intro w' hSw; go_simp
  change wpAnyH _ _ _ _ _ _ _ { tmps := #[_,_,_,_,_,_,_,_,_,_,_,_,_,_,_,_,_,_,_,_,_,_,_], defers := _ } _
  refine wpAnyH_ready (rs := [11]) (by kernel_rfl) (by simp) ?_
  refine AllReadyH.cons rfl (fun KK hK => ?_) AllReadyH.nil
  go_simp
  refine (CX.out w.drew (HC.out.below (Below.refl _ w).drew)).mono ?_
  rintro e w1 ⟨⟨g, cg, ⟨hg, hcg⟩, rfl, ho⟩, hb⟩
  have HO : Hid (OwnC cg w1 g n F) := ho
  have hB : Below w.heap.size w w1 := (Below.refl _ w).drew.trans hb
  have HB : Hid (Below w.heap.size w w1) := hB
  have HG : Hid (w.heap.size ≤ g ∧ n ≤ cg) := ⟨hg, hcg⟩
  replace H : SealAt w1 q G s x := H.below hb
  clear ho hb hB hg hcg
  refine hK.out _ _ H (fun _ => ?_)
  clear hK KK
  change wpAnyH _ _ _ _ _ _ _ { tmps := #[_,_,_,_,_,_,_,_,_,_,_,_,_,_,_,_,_,_,_,_,_,_,_], defers := _ } _
  refine wpAnyH_take (i := 12) (v := .tuple #[.slice (some ⟨g, 0, none⟩) n cg, .int .i64 0]) rfl (by kernel_rfl) (by kernel_rfl) (by kernel_rfl) (fun _ _ _ h => h) (Or.inl ⟨by rfl, ?_⟩) H ?_
  · intro w' hSw; go_simp
  change wpAnyH _ _ _ _ _ _ _ { tmps := #[_,_,_,_,_,_,_,_,_,_,_,_,_,_,_,_,_,_,_,_,_,_,_], defers := _ } _
  refine wpAnyH_take (i := 13) (v := .slice (some ⟨g, 0, none⟩) n cg) rfl (by kernel_rfl) (by kernel_rfl) (by kernel_rfl) (fun _ _ _ h => h) (Or.inl ⟨by rfl, ?_⟩) H ?_
  · intro w' hSw; go_simp
  change wpAnyH _ _ _ _ _ _ _ { tmps := #[_,_,_,_,_,_,_,_,_,_,_,_,_,_,_,_,_,_,_,_,_,_,_], defers := _ } _
  refine wpAnyH_take (i := 14) (v := .int .i64 0) rfl (by kernel_rfl) (by kernel_rfl) (by kernel_rfl) (fun _ _ _ h => h) (Or.inl ⟨by rfl, ?_⟩) H ?_
  · intro w' hSw; go_simp
  change wpAnyH _ _ _ _ _ _ _ { tmps := #[_,_,_,_,_,_,_,_,_,_,_,_,_,_,_,_,_,_,_,_,_,_,_], defers := _ } _
  refine wpAnyH_take (i := 15) (v := .slice (some ⟨g, 0, none⟩) n cg) rfl (by kernel_rfl) (by kernel_rfl) (by kernel_rfl) (fun _ _ _ h => h) (Or.inl ⟨by rfl, ?_⟩) H ?_
  · intro w' hSw; go_simp
  change wpAnyH _ _ _ _ _ _ _ { tmps := #[_,_,_,_,_,_,_,_,_,_,_,_,_,_,_,_,_,_,_,_,_,_,_], defers := _ } _
  refine wpAnyH_take (i := 16) (v := .int .i64 0) rfl (by kernel_rfl) (by kernel_rfl) (by kernel_rfl) (fun _ _ _ h => h) (Or.inl ⟨by rfl, ?_⟩) H ?_
  · intro w' hSw; go_simp
  change wpAnyH _ _ _ _ _ _ _ { tmps := #[_,_,_,_,_,_,_,_,_,_,_,_,_,_,_,_,_,_,_,_,_,_,_], defers := _ } _
  clear H
  refine wpAnyH_done (by kernel_rfl) ?_ _
  refine NoPanic.normal ?_
  go_wp2
  go_ret
  exact ⟨⟨g, cg, HG.out, rfl, HO.out⟩, HB.out⟩
end Go.Proofs.YtkmakpbphdjbcaaGreatDoor
