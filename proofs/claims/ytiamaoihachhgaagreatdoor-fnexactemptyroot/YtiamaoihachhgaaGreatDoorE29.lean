/-
  Texts of the proof, joined: Forget, Sealer.
-/
import Derived.Test.YtiamaoihachhgaaGreatDoorE26
import Derived.Defers
import Derived.Test.YtiamaoihachhgaaGreatDoorE28
import Derived.Test.YtiamaoihachhgaaGreatDoorE14
import Derived.Test.YtiamaoihachhgaaGreatDoorTkH
import Derived.Test.YtiamaoihachhgaaGreatDoorChH
namespace Go.Proofs.YtiamaoihachhgaaGreatDoor
open Go.ChangeShapes Go.WideShapes Go.ChangeAt Go.RowKit
theorem onlyB_setCellsK {b : Nat} {a : World} (vs : List Value) : ∀ (o : Nat) (w : World), OnlyB b a w → OnlyB b a (w.setCells b o vs) := by
 induction vs with
 | nil => intro o w h; exact h
 | cons v vs ih => intro o w h; exact ih (o + 1) _ (h.setCell o v)
theorem zeros_one : (Array.replicate 64 (Value.int .u8 0)).all (·.oneCell') = true := by kernel_rfl
set_option maxRecDepth 100000 in
theorem forget_deferred (b : Nat) (u : FrameMode) (w : World) (hth : w.there b 0 64) :
  CallsD Tryz.prog 108 #[.pointer (some ⟨b, 0, none⟩)] u w fun e u' w' => u' = u ∧ (e = .returned (.tuple #[]) ∧ OnlyB b w w') := by
 have z1 := Tryz.zeroKp
 have zs : Hid ((Array.replicate 64 (Value.int .u8 0)).size = 64) := Array.size_replicate
 have zo : Hid ((Array.replicate 64 (Value.int .u8 0)).all (·.oneCell') = true) := zeros_one
 generalize Array.replicate 64 (Value.int .u8 0) = Z at *
 have TH : Hid (w.there b 0 Z.size) := by show w.there b 0 Z.size; rw [zs.out]; exact hth
 have SZ : Hid ((Tryz.prog.info? 174).map (·.size) = some Z.size) := by show _ = _; rw [zs.out]; exact Tryz.sizeKp
 have O : Hid (OnlyB b w (w.setCells b 0 Z.toList)) := onlyB_setCellsK _ _ _ (OnlyB.refl _ _)
 clear hth
 go_enter_d Tryz.func108, Tryz.ntmps108
 go_wp2_with (refine wpList_store_mid rfl 174 (.tmp 4) (.tmp 3) rfl b 0 Z rfl rfl TH.out SZ.out zo.out ?_; generalize w.setCells b 0 Z.toList = wf at *)
 go_end0
 exact ⟨rfl, O.out⟩
end Go.Proofs.YtiamaoihachhgaaGreatDoor
namespace Go.Proofs.YtiamaoihachhgaaGreatDoor
open Go.ChangeShapes Go.WideShapes Go.ChangeAt Go.RowKit
def slV (G : Nat → Nat) (s : ByteArray) (x : Value) (i : Nat) : Value := if i < 64 then .int .u8 (G i : Nat) else if i = 64 then .string s else x
def SealAt (w : World) (q : Nat) (G : Nat → Nat) (s : ByteArray) (x : Value) : Prop := w.rowIs q 177 66 (slV G s x)
theorem SealAt.below {w w' : World} {q : Nat} {G : Nat → Nat} {s : ByteArray} {x : Value} (h : SealAt w q G s x) (hb : Below w.heap.size w w') : SealAt w' q G s x := World.rowIs.of_block h (hb.block q (World.rowIs.lt h))
theorem SealAt.lt {w : World} {q : Nat} {G : Nat → Nat} {s : ByteArray} {x : Value} (h : SealAt w q G s x) : q < w.heap.size := World.rowIs.lt h
theorem SealAt.drew {w : World} {q : Nat} {G : Nat → Nat} {s : ByteArray} {x : Value} (h : SealAt w q G s x) : SealAt w.drew q G s x := h
theorem SealAt.part {w : World} {q : Nat} {G : Nat → Nat} {s : ByteArray} {x : Value} (h : SealAt w q G s x) (o m : Nat) (hm : o + m ≤ 64) : Code8 w (some ⟨q, o, none⟩) m (fun i => G (o + i)) := code8_of (fun i hi => by
 rw [World.rowIs.cell h (by omega)]
 unfold slV
 rw [if_pos (by omega)])
theorem SealAt.nonce {w : World} {q : Nat} {G : Nat → Nat} {s : ByteArray} {x : Value} (h : SealAt w q G s x) : w.cell? ⟨q, 64, none⟩ = some (.string s) := World.rowIs.cell h (i := 64) (by omega)
theorem SealAt.extra {w : World} {q : Nat} {G : Nat → Nat} {s : ByteArray} {x : Value} (h : SealAt w q G s x) : w.cell? ⟨q, 65, none⟩ = some x := World.rowIs.cell h (i := 65) (by omega)
theorem SealAt.there {w : World} {q : Nat} {G : Nat → Nat} {s : ByteArray} {x : Value} (h : SealAt w q G s x) : w.there q 0 64 := fun j hj => by
 rw [Nat.zero_add]
 exact ⟨by rw [World.rowIs.cell h (by omega)]; rfl, World.rowIs.frozen h j⟩
def streamF (k s : ByteArray) (f : Nat → Nat) : Nat → Nat := ctrF (Gf.ws (strB (encS k)) 8 (3 * 8 + 28)) (8 + 6) (strB s) f
set_option maxRecDepth 100000 in
set_option maxHeartbeats 2000000 in
theorem streamed_any (k s : ByteArray) (x : Value) (q b o n c : Nat) (f : Nat → Nat) (hs : s.size = 12) (hn : n ≤ 65536) (hf : ∀ i, f i < 256) (w : World) (h : SealAt w q (pairF k) s x) (hc : Code8 w (some ⟨b, o, none⟩) n f) :
  Calls Tryz.prog 109 #[.pointer (some ⟨q, 0, none⟩), .slice (some ⟨b, o, none⟩) n c] w fun e w' => RetC w w' e n (streamF k s f) ∧ Below w.heap.size w w' := by
 have CX : Hid (∀ w : World, Code8 w (some ⟨b, o, none⟩) n f → Calls Tryz.prog 151 #[.string (encS k), .string s, .slice (some ⟨b, o, none⟩) n c] w fun e w' => RetC2 w w' e n (streamF k s f) (.int .i64 0) ∧ Below w.heap.size w w') := fun w h => implCtrC_yes (encS k) s 8 b o n c f (.inr rfl) (by rw [encS_size]) hs hn hf w h
 have hE : kstr (fun i => pairF k (0 + i)) 0 32 = encS k := kstr_congr (fun i _ => by rw [Nat.zero_add, Nat.zero_add])
 have HE : Hid (kstr (fun i => pairF k (0 + i)) 0 32 = encS k) := hE
 have HS : Hid (SealAt w q (pairF k) s x) := h
 have HC : Hid (Code8 w (some ⟨b, o, none⟩) n f) := hc
 clear h hc hE hf
 generalize pairF k = G at *
 generalize encS k = E at *
 generalize streamF k s f = F at *
 go_enter Tryz.func109, Tryz.ntmps109
 go_upto_region 1 with fail
 have H := HS.out.drew
 refine wp_region_noPanic ?_
 refine wp_region_held_drew (S := fun w' => SealAt w' q G s x) (by kernel_rfl) H (fun _ => ?_)
 refine tkH (i := 0) (v := .pointer (some ⟨q, 0, none⟩)) rfl (by kernel_rfl) (by rfl) ?_ H ?_
 ·intro w' hSw; go_simp
 refine ch23 ?_
 refine tkH (i := 1) (v := .pointer (some ⟨q, 0, none⟩)) rfl (by kernel_rfl) (by rfl) ?_ H ?_
 ·intro w' hSw; go_simp
 refine ch23 ?_
 refine tkH (i := 2) (v := .pointer (some ⟨q, 0, none⟩)) rfl (by kernel_rfl) (by rfl) ?_ H ?_
 ·intro w' hSw; go_simp
 refine ch23 ?_
 refine tkH (i := 3) (v := .pointer (some ⟨q, 0, none⟩)) rfl (by kernel_rfl) (by rfl) ?_ H ?_
 ·intro w' hSw; go_simp
 refine ch23 ?_
 refine tkH (i := 4) (v := .slice (some ⟨q, 0, none⟩) 32 32) rfl (by kernel_rfl) (by rfl) ?_ H ?_
 ·intro w' hSw; go_simp
 refine ch23 ?_
 refine tkH (i := 5) (v := .string E) rfl (by kernel_rfl) (by rfl) ?_ H ?_
 ·intro w' hSw; have := kstr_of_code (c := 32) (hSw.part 0 32 (by omega)); rw [HE.out] at this; clear hSw; go_simp
 refine ch23 ?_
 refine tkH (i := 6) (v := .pointer (some ⟨q, 0, none⟩)) rfl (by kernel_rfl) (by rfl) ?_ H ?_
 ·intro w' hSw; go_simp
 refine ch23 ?_
 refine tkH (i := 7) (v := .pointer (some ⟨q, 0, none⟩)) rfl (by kernel_rfl) (by rfl) ?_ H ?_
 ·intro w' hSw; go_simp
 refine ch23 ?_
 refine tkH (i := 8) (v := .pointer (some ⟨q, 64, none⟩)) rfl (by kernel_rfl) (by rfl) ?_ H ?_
 ·intro w' hSw; go_simp
 refine ch23 ?_
 refine tkH (i := 9) (v := .string s) rfl (by kernel_rfl) (by rfl) ?_ H ?_
 ·intro w' hSw; have := hSw.nonce; clear hSw; go_simp
 refine ch23 ?_
 refine tkH (i := 10) (v := .slice (some ⟨b, o, none⟩) n c) rfl (by kernel_rfl) (by rfl) ?_ H ?_
 ·intro w' hSw; go_simp
 refine ch23 ?_
 refine wpAnyH_ready (rs := [11]) (by kernel_rfl) (by simp) ?_
 refine AllReadyH.cons rfl (fun KK hK => ?_) AllReadyH.nil
 go_simp
 refine (CX.out w.drew (HC.out.below (Below.refl _ w).drew)).mono ?_
 rintro e w1 ⟨⟨g, cg, ⟨hg, hcg⟩, rfl, ho⟩, hb⟩
 have HO : Hid (OwnC cg w1 g n F) := ho
 have hB : Below w.heap.size w w1 := (Below.refl _ w).drew.trans hb
 have HB : Hid (Below w.heap.size w w1) := hB
 have HG : Hid (w.heap.size ≤ g ∧ n ≤ cg) := ⟨hg, hcg⟩
 replace H : SealAt w1 q G s x := H.below hb
 clear ho hb hB hg hcg
 refine hK.out _ _ H (fun _ => ?_)
 clear hK KK
 refine ch23 ?_
 refine tkH (i := 12) (v := .tuple #[.slice (some ⟨g, 0, none⟩) n cg, .int .i64 0]) rfl (by kernel_rfl) (by rfl) ?_ H ?_
 ·intro w' hSw; go_simp
 refine ch23 ?_
 refine tkH (i := 13) (v := .slice (some ⟨g, 0, none⟩) n cg) rfl (by kernel_rfl) (by rfl) ?_ H ?_
 ·intro w' hSw; go_simp
 refine ch23 ?_
 refine tkH (i := 14) (v := .int .i64 0) rfl (by kernel_rfl) (by rfl) ?_ H ?_
 ·intro w' hSw; go_simp
 refine ch23 ?_
 refine tkH (i := 15) (v := .slice (some ⟨g, 0, none⟩) n cg) rfl (by kernel_rfl) (by rfl) ?_ H ?_
 ·intro w' hSw; go_simp
 refine ch23 ?_
 refine tkH (i := 16) (v := .int .i64 0) rfl (by kernel_rfl) (by rfl) ?_ H ?_
 ·intro w' hSw; go_simp
 refine ch23 ?_
 clear H
 refine wpAnyH_done (by kernel_rfl) ?_ _
 refine NoPanic.normal ?_
 go_wp2
 go_ret
 exact ⟨⟨g, cg, HG.out, rfl, HO.out⟩, HB.out⟩
end Go.Proofs.YtiamaoihachhgaaGreatDoor
