/-
  Texts of the proof, joined.
-/
import Derived.Deep.QuietTactic
import Derived.BigQuiet
import Derived.Handy
import Derived.Test.YtcpjeopnhgoonaaGreatDoorF10
import Derived.Deep.RegionHeld3
import Derived.Deep.Cut
import Derived.WalkMore
import Derived.ScopeJumps
namespace Go.Proofs.YtcpjeopnhgoonaaGreatDoor
open Go.ChangeShapes Go.WideShapes Go.ChangeAt Go.RowKit
set_option linter.unusedVariables false
theorem cellBlock {w:World} {p:Addr} {v:Value} (h:w.cell? p = some v):p.block < w.heap.size:=by
 rcases Nat.lt_or_ge p.block w.heap.size with g | g
 ·exact g
 ·simp [World.cell?,Array.getElem?_eq_none g] at h
theorem numEq {k:IntKind} {a b:Int} (h:a = b):Value.int k a = .int k b:=by rw [h]
structure Only (a:Option Addr) (w w':World):Prop where
 os:w'.os = w.os
 tape:w'.tape = w.tape
 output:w'.output = w.output
 size:w'.heap.size = w.heap.size
 block:∀ k,(∀ p,a = some p→p.block≠k)→w'.heap[k]? = w.heap[k]?
theorem Tryz.sizeU8:(Tryz.prog.info? 5).map (·.size) = some 1:=by kernel_rfl
theorem idx0 (x0 x1 x2 x3:Int) (w:World):(Instr.index 281 (.agg #[.int .u8 x0,.int .u8 x1,.int .u8 x2,.int .u8 x3]) (.int .i64 0)).run Tryz.prog w = .ok (.int .u8 x0) w:=run_index_flat (k:=0) Tryz.underlying281 Tryz.underlying5 rfl Tryz.sizeU8 (by omega) rfl w
theorem idx1 (x0 x1 x2 x3:Int) (w:World):(Instr.index 281 (.agg #[.int .u8 x0,.int .u8 x1,.int .u8 x2,.int .u8 x3]) (.int .i64 1)).run Tryz.prog w = .ok (.int .u8 x1) w:=run_index_flat (k:=1) Tryz.underlying281 Tryz.underlying5 rfl Tryz.sizeU8 (by omega) rfl w
theorem idx2 (x0 x1 x2 x3:Int) (w:World):(Instr.index 281 (.agg #[.int .u8 x0,.int .u8 x1,.int .u8 x2,.int .u8 x3]) (.int .i64 2)).run Tryz.prog w = .ok (.int .u8 x2) w:=run_index_flat (k:=2) Tryz.underlying281 Tryz.underlying5 rfl Tryz.sizeU8 (by omega) rfl w
theorem idx3 (x0 x1 x2 x3:Int) (w:World):(Instr.index 281 (.agg #[.int .u8 x0,.int .u8 x1,.int .u8 x2,.int .u8 x3]) (.int .i64 3)).run Tryz.prog w = .ok (.int .u8 x3) w:=run_index_flat (k:=3) Tryz.underlying281 Tryz.underlying5 rfl Tryz.sizeU8 (by omega) rfl w
end Go.Proofs.YtcpjeopnhgoonaaGreatDoor
namespace Go.Proofs.YtcpjeopnhgoonaaGreatDoor
open Go.ChangeShapes Go.WideShapes Go.ChangeAt Go.RowKit
namespace Gf
def mx (a b c d x y:Nat):Nat:=(((((a ^^^ b) ^^^ c) ^^^ d)) ^^^ x) ^^^ dbl (x ^^^ y)
theorem mx_lt {a b c d x y:Nat} (ha:a < 256) (hb:b < 256) (hc:c < 256) (hd:d < 256) (hx:x < 256) (hy:y < 256):mx a b c d x y < 256 :=
 xor_lt (xor_lt (xor_lt (xor_lt (xor_lt ha hb) hc) hd) hx) (dbl_lt _ (xor_lt hx hy))
end Gf
set_option maxRecDepth 100000 in
set_option maxHeartbeats 2000000 in
theorem mix_any (a b c d:Nat) (ha:a < 256) (hb:b < 256) (hc:c < 256) (hd:d < 256) (w:World) :
  Calls Tryz.prog 236 #[.agg #[.int .u8 a,.int .u8 b,.int .u8 c,.int .u8 d]] w fun e w' =>
   e = .returned (.agg #[.int .u8 (Gf.mx a b c d a b:Nat),.int .u8 (Gf.mx a b c d b c:Nat),.int .u8 (Gf.mx a b c d c d:Nat),.int .u8 (Gf.mx a b c d d a:Nat)])∧Below w.heap.size w w':=by
 have hx:∀ x y:Nat,x < 256→y < 256→bits .xor .u8 (x:Int) (y:Int) = ((x ^^^ y:Nat):Int):=u8_xor_nat
 have hl:∀ x y:Nat,x < 256→y < 256→x ^^^ y < 256:=fun x y => Gf.xor_lt
 have l1:=Gf.xor_lt ha hb
 have l2:=Gf.xor_lt l1 hc
 have l3:=Gf.xor_lt l2 hd
 have m1:=Gf.xor_lt hb hc
 have m2:=Gf.xor_lt hc hd
 have m3:=Gf.xor_lt hd ha
 have d0:=Gf.dbl_lt _ l1
 have d1:=Gf.dbl_lt _ m1
 have d2:=Gf.dbl_lt _ m2
 have d3:=Gf.dbl_lt _ m3
 have i0:∀ w:World,(Instr.index 281 (.agg #[.int .u8 a,.int .u8 b,.int .u8 c,.int .u8 d]) (.int .i64 0)).run Tryz.prog w = .ok (.int .u8 a) w:=fun w => run_index_flat (k:=0) Tryz.underlying281 Tryz.underlying5 rfl Tryz.sizeU8 (by omega) rfl w
 have i1:∀ w:World,(Instr.index 281 (.agg #[.int .u8 a,.int .u8 b,.int .u8 c,.int .u8 d]) (.int .i64 1)).run Tryz.prog w = .ok (.int .u8 b) w:=fun w => run_index_flat (k:=1) Tryz.underlying281 Tryz.underlying5 rfl Tryz.sizeU8 (by omega) rfl w
 have i2:∀ w:World,(Instr.index 281 (.agg #[.int .u8 a,.int .u8 b,.int .u8 c,.int .u8 d]) (.int .i64 2)).run Tryz.prog w = .ok (.int .u8 c) w:=fun w => run_index_flat (k:=2) Tryz.underlying281 Tryz.underlying5 rfl Tryz.sizeU8 (by omega) rfl w
 have i3:∀ w:World,(Instr.index 281 (.agg #[.int .u8 a,.int .u8 b,.int .u8 c,.int .u8 d]) (.int .i64 3)).run Tryz.prog w = .ok (.int .u8 d) w:=fun w => run_index_flat (k:=3) Tryz.underlying281 Tryz.underlying5 rfl Tryz.sizeU8 (by omega) rfl w
 go_enter Tryz.func236,Tryz.ntmps236
 go_wp2
 refine wp_loop_rounds 5 ?_
 rw [rounds_succ]
 go_wp2_with (go_at_call 231; refine (double_any (a ^^^ b) l1 _).mono ?_; rintro e w' ⟨rfl,rfl⟩)
 rw [rounds_succ]
 go_wp2_with (go_at_call 231; refine (double_any (b ^^^ c) m1 _).mono ?_; rintro e w' ⟨rfl,rfl⟩)
 rw [rounds_succ]
 go_wp2_with (go_at_call 231; refine (double_any (c ^^^ d) m2 _).mono ?_; rintro e w' ⟨rfl,rfl⟩)
 rw [rounds_succ]
 go_wp2_with (go_at_call 231; refine (double_any (d ^^^ a) m3 _).mono ?_; rintro e w' ⟨rfl,rfl⟩)
 rw [rounds_succ]
 go_wp2
 exact bodyPost_ret (v:=.agg #[.int .u8 (Gf.mx a b c d a b:Nat),.int .u8 (Gf.mx a b c d b c:Nat),.int .u8 (Gf.mx a b c d c d:Nat),.int .u8 (Gf.mx a b c d d a:Nat)]) (by simp [results,Tryz.results236,go_sem,Gf.mx]) rfl ⟨rfl,(((Below.refl _ _).alloc (Nat.le_refl _) _).alloc (by simp) _).alloc (by simp; omega) _⟩
end Go.Proofs.YtcpjeopnhgoonaaGreatDoor
namespace Go.Proofs.YtcpjeopnhgoonaaGreatDoor
namespace Gf
def addK (s k:Nat→Nat) (j:Nat):Nat:=s j ^^^ k j
def ord (j:Nat):Nat:=(j + 4 * (j % 4)) % 16
def subTurn (s:Nat→Nat) (j:Nat):Nat:=sub (s (ord j))
def mixAt (s:Nat→Nat) (o r:Nat):Nat:=mx (s o) (s (o + 1)) (s (o + 2)) (s (o + 3)) (s (o + r)) (s (o + (r + 1) % 4))
def mixS (s:Nat→Nat) (j:Nat):Nat:=mixAt s (j / 4 * 4) (j % 4)
def keyAt (K:Nat→Nat) (i j:Nat):Nat:=K (i * 16 + j)
def encTo (K:Nat→Nat) (s:Nat→Nat):Nat→Nat→Nat
 | 0 => addK s (keyAt K 0)
 | i + 1 => addK (mixS (subTurn (encTo K s i))) (keyAt K (i + 1))
def enc (K:Nat→Nat) (R:Nat) (s:Nat→Nat):Nat→Nat:=addK (subTurn (encTo K s (R - 1))) (keyAt K R)
theorem ord_lt (j:Nat):ord j < 16:=Nat.mod_lt _ (by omega)
theorem addK_lt {s k:Nat→Nat} {j:Nat} (hs:s j < 256) (hk:k j < 256):addK s k j < 256:=xor_lt hs hk
theorem subTurn_lt {s:Nat→Nat} (hs:∀ j,j < 16→s j < 256) (j:Nat):subTurn s j < 256:=sub_lt _ (hs _ (ord_lt j))
theorem mixAt_lt {s:Nat→Nat} {o r:Nat} (hs:∀ j,j < 16→s j < 256) (ho:o + 4≤16) (hr:r < 4):mixAt s o r < 256 :=
 mx_lt (hs _ (by omega)) (hs _ (by omega)) (hs _ (by omega)) (hs _ (by omega)) (hs _ (by omega)) (hs _ (by have:=Nat.mod_lt (r + 1) (show 0 < 4 by omega); omega))
theorem mixS_lt {s:Nat→Nat} (hs:∀ j,j < 16→s j < 256) (j:Nat) (hj:j < 16):mixS s j < 256:=mixAt_lt hs (by omega) (Nat.mod_lt _ (by omega))
theorem encTo_lt {K s:Nat→Nat} (hK:∀ j,K j < 256) (hs:∀ j,j < 16→s j < 256):∀ i j,j < 16→encTo K s i j < 256:=by
 intro i
 induction i with
 | zero => intro j hj; exact addK_lt (hs j hj) (hK _)
 | succ i ih => intro j hj; exact addK_lt (mixS_lt (fun j _ => subTurn_lt ih j) j hj) (hK _)
theorem enc_lt {K s:Nat→Nat} {R:Nat} (hK:∀ j,K j < 256) (hs:∀ j,j < 16→s j < 256) (j:Nat):enc K R s j < 256:=addK_lt (subTurn_lt (encTo_lt hK hs _) j) (hK _)
end Gf
end Go.Proofs.YtcpjeopnhgoonaaGreatDoor
namespace Go.Proofs.YtcpjeopnhgoonaaGreatDoor
open Go.ChangeShapes Go.WideShapes Go.ChangeAt Go.RowKit
set_option linter.unusedVariables false
theorem four_keep {w w1:World} {b o x0 x1 x2 x3:Nat} (h:w.cell? ⟨b,o,none⟩ = some (.int .u8 (x0:Nat))∧w.cell? ⟨b,o + 1,none⟩ = some (.int .u8 (x1:Nat))∧w.cell? ⟨b,o + 2,none⟩ = some (.int .u8 (x2:Nat))∧w.cell? ⟨b,o + 3,none⟩ = some (.int .u8 (x3:Nat))) (hb:Below w.heap.size w w1) :
  w1.cell? ⟨b,o,none⟩ = some (.int .u8 (x0:Nat))∧w1.cell? ⟨b,o + 1,none⟩ = some (.int .u8 (x1:Nat))∧w1.cell? ⟨b,o + 2,none⟩ = some (.int .u8 (x2:Nat))∧w1.cell? ⟨b,o + 3,none⟩ = some (.int .u8 (x3:Nat)):=by
 have hlt:=cellBlock h.1
 rw [hb.cell (p:=⟨b,o,none⟩) hlt,hb.cell (p:=⟨b,o + 1,none⟩) hlt,hb.cell (p:=⟨b,o + 2,none⟩) hlt,hb.cell (p:=⟨b,o + 3,none⟩) hlt]
 exact h
set_option maxRecDepth 100000 in
set_option maxHeartbeats 2000000 in
theorem mixed_any (f:Nat→Nat) (hf:∀ i,i < 16→f i < 256) (w:World) :
  Calls Tryz.prog 222 #[.agg (bA 16 f)] w fun e w' => e = .returned (.agg (bA 16 (Gf.mixS f)))∧Below w.heap.size w w':=by
 have HF:Hid (∀ i,i < 16→f i < 256):=hf
 clear hf
 have Z':Hid (Row8 ((w.alloc (.cells (bA 16 f) 257)).alloc (.cells z16 257)) (w.heap.size + 1) 257 16 (fun _ => 0)):=Row8.z16At (by simp) _
 have R3':Hid (Row8 ((w.alloc (.cells (bA 16 f) 257)).alloc (.cells z16 257)) w.heap.size 257 16 f):=(Row8.boxedAt rfl _ _ _).alloc _
 have B3:Hid (Below w.heap.size w ((w.alloc (.cells (bA 16 f) 257)).alloc (.cells z16 257))):=((Below.refl _ _).alloc (Nat.le_refl _) _).alloc (by simp) _
 unfold z16 at Z' R3' B3
 go_enter Tryz.func222,Tryz.ntmps222
 go_wp2
 generalize (w.alloc (.cells (bA 16 f) 257)).alloc (.cells #[.int .u8 0,.int .u8 0,.int .u8 0,.int .u8 0,.int .u8 0,.int .u8 0,.int .u8 0,.int .u8 0,.int .u8 0,.int .u8 0,.int .u8 0,.int .u8 0,.int .u8 0,.int .u8 0,.int .u8 0,.int .u8 0] 257) = wz at *
 go_loopw [3] (fun i wr => ∃ c:Nat,c≤4∧i = .int .i64 ((c * 4:Nat):Int)∧Row8 wr w.heap.size 257 16 (fun j => if j < c * 4 then Gf.mixS f j else f j)∧Row8 wr (w.heap.size + 1) 257 16 (fun _ => 0)∧Below w.heap.size w wr) (fun i _ => 16 - (intOf i).toNat)
 case atStart => exact ⟨0,by omega,rfl,R3'.out.congr (fun j hj => by simp),Z'.out,B3.out⟩
 case round =>
  obtain ⟨c,hc,rfl,hr,hz,hb⟩:=hrel
  have HR:Hid (Row8 wr w.heap.size 257 16 (fun j => if j < c * 4 then Gf.mixS f j else f j)):=hr
  have HZ:Hid (Row8 wr (w.heap.size + 1) 257 16 (fun _ => 0)):=hz
  have HB:Hid (Below w.heap.size w wr):=hb
  clear Z' R3' B3
  by_cases hlt:c < 4
  ·have c0:wr.cell? ⟨w.heap.size,c * 4,none⟩ = some (.int .u8 (f (c * 4):Nat)):=by have:=World.rowIs.cell hr (i:=c * 4) (by omega); simp only [] at this; rw [if_neg (by omega)] at this; exact this
   have c1:wr.cell? ⟨w.heap.size,c * 4 + 1,none⟩ = some (.int .u8 (f (c * 4 + 1):Nat)):=by have:=World.rowIs.cell hr (i:=c * 4 + 1) (by omega); simp only [] at this; rw [if_neg (by omega)] at this; exact this
   have c2:wr.cell? ⟨w.heap.size,c * 4 + 2,none⟩ = some (.int .u8 (f (c * 4 + 2):Nat)):=by have:=World.rowIs.cell hr (i:=c * 4 + 2) (by omega); simp only [] at this; rw [if_neg (by omega)] at this; exact this
   have c3:wr.cell? ⟨w.heap.size,c * 4 + 3,none⟩ = some (.int .u8 (f (c * 4 + 3):Nat)):=by have:=World.rowIs.cell hr (i:=c * 4 + 3) (by omega); simp only [] at this; rw [if_neg (by omega)] at this; exact this
   have l0:=HF.out (c * 4) (by omega)
   have l1:=HF.out (c * 4 + 1) (by omega)
   have l2:=HF.out (c * 4 + 2) (by omega)
   have l3:=HF.out (c * 4 + 3) (by omega)
   have MX:Hid (∀ r,r < 4→Gf.mixS f (c * 4 + r) = Gf.mx (f (c * 4)) (f (c * 4 + 1)) (f (c * 4 + 2)) (f (c * 4 + 3)) (f (c * 4 + r)) (f (c * 4 + (r + 1) % 4))):=fun r hr => by
    rw [Gf.mixS,show (c * 4 + r) / 4 * 4 = c * 4 from by omega,show (c * 4 + r) % 4 = r from by omega]; rfl
   have hlt':c * 4 + 4≤16:=by omega
   clear hr hz hb
   generalize hO:c * 4 = O at *
   have HO:Hid (c * 4 = O):=hO
   have b0:(O:Int) < 16:=by omega
   have b1:(O:Int) + 1 < 16:=by omega
   have b2:(O:Int) + 2 < 16:=by omega
   have b3:(O:Int) + 3 < 16:=by omega
   have p0:(0:Int)≤(O:Int):=by omega
   have p1:(0:Int)≤(O:Int) + 1:=by omega
   have p2:(0:Int)≤(O:Int) + 2:=by omega
   have p3:(0:Int)≤(O:Int) + 3:=by omega
   have t1:((O:Int) + 1).toNat = O + 1:=by omega
   have t2:((O:Int) + 2).toNat = O + 2:=by omega
   have t3:((O:Int) + 3).toNat = O + 3:=by omega
   have v1:IntKind.i64.wrap ((O:Int) + 1) = O + 1:=IntWalk.i64_in _ ⟨by omega,by omega⟩
   have v2:IntKind.i64.wrap ((O:Int) + 2) = O + 2:=IntWalk.i64_in _ ⟨by omega,by omega⟩
   have v3:IntKind.i64.wrap ((O:Int) + 3) = O + 3:=IntWalk.i64_in _ ⟨by omega,by omega⟩
   have M0:=MX.out 0 (by omega)
   have M1:=MX.out 1 (by omega)
   have M2:=MX.out 2 (by omega)
   have M3:=MX.out 3 (by omega)
   have CALL:Hid (∀ w:World,Calls Tryz.prog 236 #[.agg #[.int .u8 (f O:Nat),.int .u8 (f (O + 1):Nat),.int .u8 (f (O + 2):Nat),.int .u8 (f (O + 3):Nat)]] w fun e w' => e = .returned (.agg #[.int .u8 (Gf.mixS f O:Nat),.int .u8 (Gf.mixS f (O + 1):Nat),.int .u8 (Gf.mixS f (O + 2):Nat),.int .u8 (Gf.mixS f (O + 3):Nat)])∧Below w.heap.size w w'):=fun w => by
    have:=mix_any (f O) (f (O + 1)) (f (O + 2)) (f (O + 3)) l0 l1 l2 l3 w
    rw [Nat.add_zero] at M0
    rw [M0,M1,M2,M3]
    exact this
   have HM:Hid (∀ r,r < 4→True):=fun _ _ => trivial
   clear M0 M1 M2 M3 MX HM
   generalize hA0:f O = A0 at c0 l0 CALL
   generalize hA1:f (O + 1) = A1 at c1 l1 CALL
   generalize hA2:f (O + 2) = A2 at c2 l2 CALL
   generalize hA3:f (O + 3) = A3 at c3 l3 CALL
   clear hA0 hA1 hA2 hA3
   go_wp2_with fail
   go_region_held3 (fun w' => w'.cell? ⟨w.heap.size,O,none⟩ = some (.int .u8 (A0:Nat))∧w'.cell? ⟨w.heap.size,O + 1,none⟩ = some (.int .u8 (A1:Nat))∧w'.cell? ⟨w.heap.size,O + 2,none⟩ = some (.int .u8 (A2:Nat))∧w'.cell? ⟨w.heap.size,O + 3,none⟩ = some (.int .u8 (A3:Nat))) (first | exact four_keep (w:=wr.drew) ⟨c0,c1,c2,c3⟩ hb | go_keep)
    ((first | (go_at_call 236; refine (CALL.out _).mono ?_; rintro e w1 ⟨rfl,hb⟩; have HR1:Hid (Row8 w1 w.heap.size 257 16 (fun j => if j < O then Gf.mixS f j else f j)):=Row8.below (w:=wr.drew) HR.out hb; have HZ1:Hid (Row8 w1 (w.heap.size + 1) 257 16 (fun _ => 0)):=Row8.below (w:=wr.drew) HZ.out hb; have HB1:Hid (Below w.heap.size w w1):=HB.out.drew.trans (hb.mono HB.out.size))))
   clear hb c0 c1 c2 c3 HR HZ HB CALL
   have j0:=idx0
   have j1:=idx1
   have j2:=idx2
   have j3:=idx3
   have hl:=World.rowIs.lt HR1.out
   have d0:w1.cell? ⟨w.heap.size,O,none⟩ = some (.int .u8 (f (O):Nat)):=by have:=World.rowIs.cell HR1.out (i:=O) (by omega); simp only [] at this; rw [if_neg (by omega)] at this; exact this
   have d1:w1.cell? ⟨w.heap.size,O + 1,none⟩ = some (.int .u8 (f (O + 1):Nat)):=by have:=World.rowIs.cell HR1.out (i:=O + 1) (by omega); simp only [] at this; rw [if_neg (by omega)] at this; exact this
   have d2:w1.cell? ⟨w.heap.size,O + 2,none⟩ = some (.int .u8 (f (O + 2):Nat)):=by have:=World.rowIs.cell HR1.out (i:=O + 2) (by omega); simp only [] at this; rw [if_neg (by omega)] at this; exact this
   have d3:w1.cell? ⟨w.heap.size,O + 3,none⟩ = some (.int .u8 (f (O + 3):Nat)):=by have:=World.rowIs.cell HR1.out (i:=O + 3) (by omega); simp only [] at this; rw [if_neg (by omega)] at this; exact this
   have f0:=World.rowIs.frozen HR1.out O
   have f1:=World.rowIs.frozen HR1.out (O + 1)
   have f2:=World.rowIs.frozen HR1.out (O + 2)
   have f3:=World.rowIs.frozen HR1.out (O + 3)
   go_wp2
   refine wp_loop_rounds 5 ?_
   rw [rounds_succ]
   go_wp2
   rw [rounds_succ]
   go_wp2
   rw [rounds_succ]
   go_wp2
   rw [rounds_succ]
   go_wp2
   rw [rounds_succ]
   go_wp2
   go_roundw
   case rel =>
    refine ⟨c + 1,by omega,numEq (by have:=HO.out; omega),?_,(((HZ1.out.other (by show w.heap.size + 1≠w.heap.size; omega) _).other (by show w.heap.size + 1≠w.heap.size; omega) _).other (by show w.heap.size + 1≠w.heap.size; omega) _).other (by show w.heap.size + 1≠w.heap.size; omega) _,(((HB1.out.setCell (Nat.le_refl _) _).setCell (Nat.le_refl _) _).setCell (Nat.le_refl _) _).setCell (Nat.le_refl _) _⟩
    exact ((((HR1.out.set O (Gf.mixS f O)).set (O + 1) (Gf.mixS f (O + 1))).set (O + 2) (Gf.mixS f (O + 2))).set (O + 3) (Gf.mixS f (O + 3))).congr (fun j hj => by
     have:=HO.out
     by_cases h1:j < O
     ·rw [if_neg (by omega),if_neg (by omega),if_neg (by omega),if_neg (by omega),if_pos h1,if_pos (by omega)]
     ·by_cases h2:j < (c + 1) * 4
      ·rw [if_pos h2]
       rcases (show j = O∨j = O + 1∨j = O + 2∨j = O + 3 by omega) with rfl | rfl | rfl | rfl <;> simp
      ·rw [if_neg (by omega),if_neg (by omega),if_neg (by omega),if_neg (by omega),if_neg h1,if_neg h2])
   case measure => simp [intOf]; omega
  ·have HR':Hid (Row8 wr w.heap.size 257 16 (Gf.mixS f)):=hr.congr (fun j hj => by rw [if_pos (by omega)])
   have hc':¬ ((c * 4:Nat):Int) < 16:=by omega
   clear hr hz hb HR
   generalize ((c * 4:Nat):Int) = cc at *
   generalize hG:Gf.mixS f = G at *
   have HG:Hid (Gf.mixS f = G):=hG
   clear hG
   go_upto_region 9 with fail
   refine wp_region_lit ?_
   refine wpList_load_mid rfl 257 (.tmp 1) rfl w.heap.size 0 rfl (bv 16 G) _ HR'.out.range Tryz.underlying257 rfl (by rw [bv_length]; exact Tryz.sizeSt) ?_
   refine wpList_store_mid rfl 257 (.tmp 2) (.tmp 37) rfl (w.heap.size + 1) 0 (bA 16 G) rfl rfl (by rw [bA_size]; exact HZ.out.there) (by rw [bA_size]; exact Tryz.sizeSt) (bA_one _ _) ?_
   rw [bA_toList]
   have L:Hid ((loadVar 257 ⟨w.heap.size + 1,0,none⟩).run Tryz.prog (wr.setCells (w.heap.size + 1) 0 (bv 16 G)) = .ok (.agg (bA 16 G)) (wr.setCells (w.heap.size + 1) 0 (bv 16 G))):=(HZ.out.stored _).load Tryz.underlying257 rfl Tryz.sizeSt
   have B:Hid (Below w.heap.size w (wr.setCells (w.heap.size + 1) 0 (bv 16 G))):=below_setCells (by omega) _ _ _ HB.out
   have eA:(bv 16 G).toArray = bA 16 G:=rfl
   rw [eA]
   generalize wr.setCells (w.heap.size + 1) 0 (bv 16 G) = wf at *
   generalize hA:bA 16 G = AA at *
   have HA:Hid (bA 16 G = AA):=hA
   clear hA eA
   go_wp2
   rw [HG.out,HA.out]
   exact bodyPost_ret (v:=.agg AA) (results_cell_one (b:=w.heap.size + 1) (o:=0) Tryz.results222 _ _ _ rfl L.out) rfl ⟨rfl,B.out⟩
end Go.Proofs.YtcpjeopnhgoonaaGreatDoor
namespace Go.Proofs.YtcpjeopnhgoonaaGreatDoor
theorem wp_scope_label {P:Program} {a:Act} {w:World} {Q:Exit→Act→World→Prop} {c body:Code} (l:Nat) (J:Act→World→Prop) (μ:Act→World→Nat) (hf:findLabel c l = some (Code.skip.seq body))
  (pass:∀ a w,J a w→body.wp P (Exit.jump l (fun a' w' => J a' w'∧μ a' w' < μ a w) Q) a w)
  (first:(∀ a w,J a w→body.wp P (Exit.jump l J Q) a w)→c.wp P (Exit.jump l J Q) a w):(Code.scope c).wp P Q a w :=
 wp_scope_jumps l J μ hf (first (fun a w h => Code.wp_mono (fun e a' w' hq => by
  cases e with
  | goto l' => exact ⟨hq.1,hq.2.1⟩
  | _ => exact hq) (pass a w h))) (fun a w h => wp_seq (wp_skip (pass a w h)))
theorem jump_ret {l:Nat} {J:Act→World→Prop} {Q:Exit→Act→World→Prop} {a:Act} {w:World}:Exit.jump l J Q .ret a w = Q .ret a w:=rfl
def lenOf:Value→Nat | .slice _ n _ => n | _ => 0
end Go.Proofs.YtcpjeopnhgoonaaGreatDoor
