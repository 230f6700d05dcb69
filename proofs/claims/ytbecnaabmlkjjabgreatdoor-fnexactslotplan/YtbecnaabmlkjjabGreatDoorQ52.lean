/-
  Texts of the proof, joined: PlanS, PlanL, LawPlan.
-/
import Derived.Test.YtbecnaabmlkjjabGreatDoorQ50
import Derived.Test.YtbecnaabmlkjjabGreatDoorQ51
import Derived.Test.YtbecnaabmlkjjabGreatDoorQ48
import Derived.Test.YtbecnaabmlkjjabGreatDoorQ19
namespace Go.Proofs.YtbecnaabmlkjjabGreatDoor
open Go.ChangeShapes Go.WideShapes Go.ChangeAt Go.RowKit
set_option linter.unusedVariables false
theorem fieldSlot0 (E : Int) (D : ByteArray) (w : World) : (Instr.field 28 (.agg #[.int .i64 E, .string D]) 0).run Tryz.prog w = .ok (.int .i64 E) w := by kernel_rfl
set_option maxRecDepth 100000 in
set_option maxHeartbeats 4000000 in
theorem l06Plan_any (k s : ByteArray) (d : Dk) (a0 a1 a2 : Option Addr) (c0 c1 c2 e0 : Nat) (hk : k.size = 32) (hd : d.Ok) (hn : 2 ≤ d.nb) (he : (bst k d 2).1 + 1 = (e0 : Int)) (he2 : e0 < 4294967296) (hs : s.size ≤ 170) (w : World) (h : DiskV w d a0 a1 a2) :
    Calls Tryz.prog 31 #[.string k, .agg #[.slice a0 d.nb c0, .slice a1 d.nc c1, .slice a2 d.ns c2], .string s] w fun e w' => (∃ b, e = .returned (.slice (some ⟨b, 0, none⟩) 3 3) ∧ w.heap.size ≤ b ∧ PlanR w' b ((e0 % 2 : Nat) : Int) (planT k e0 s)) ∧ Below w.heap.size w w' := by
  have OP : Hid (∀ w : World, DiskV w d a0 a1 a2 → Calls Tryz.prog 24 #[.string k, .agg #[.slice a0 d.nb c0, .slice a1 d.nc c1, .slice a2 d.ns c2]] w fun e w' => e = .returned (.agg #[.int .i64 (bst k d 2).1, .string (bst k d 2).2]) ∧ Below w.heap.size w w') := fun w h => l06Open_any k d a0 a1 a2 c0 c1 c2 hk hd hn w h
  have BY : Hid (∀ w : World, Calls Tryz.prog 56 #[.string k, .int .i64 ((e0 % 2 : Nat) : Int), .agg #[.int .i64 (e0 : Int), .string s]] w fun e w' => RetM w.heap.size w' e (20 + s.size) (slotF k (e0 % 2) e0 s) ∧ Below w.heap.size w w') := fun w => l06Bytes_any k s (e0 % 2) e0 hk (by omega) he2 (by omega) w
  have HP : Hid (planT k e0 s = kstr (slotF k (e0 % 2) e0 s) 0 (20 + s.size)) := rfl
  generalize planT k e0 s = PT at *
  generalize slotF k (e0 % 2) e0 s = F at *
  have nn := bst_nn k d 2
  generalize (bst k d 2).1 = BE at *
  generalize (bst k d 2).2 = BD at *
  have wr1 : IntKind.i64.wrap (BE + 1) = BE + 1 := IntWalk.i64_in _ ⟨by omega, by omega⟩
  obtain rfl : BE = (e0 : Int) - 1 := by omega
  have es : (e0 : Int) - 1 + 1 = (e0 : Int) := by omega
  rw [es] at wr1
  have em := tmod2 e0
  have em2 : ((e0 : Nat) : Int) % 2 = ((e0 % 2 : Nat) : Int) := by omega
  generalize e0 % 2 = P at *
  have BX : Hid (Box3 (w.alloc (.cells #[.slice a0 d.nb c0, .slice a1 d.nc c1, .slice a2 d.ns c2] 33)) w.heap.size 33 (.slice a0 d.nb c0) (.slice a1 d.nc c1) (.slice a2 d.ns c2)) := Box3.made _ _ _ _ _
  have A1 : Hid (Below w.heap.size w (w.alloc (.cells #[.slice a0 d.nb c0, .slice a1 d.nc c1, .slice a2 d.ns c2] 33))) := (Below.refl _ _).alloc (Nat.le_refl _) _
  have HV : Hid (DiskV w d a0 a1 a2) := h
  have t0 := BX.out.c0
  have t1 := BX.out.c1
  have t2 := BX.out.c2
  clear h hk hd hn he he2 hs
  go_enter Tryz.func31, Tryz.ntmps31
  go_wp2_with fail
  clear t0 t1 t2 BX
  generalize (w.alloc (.cells #[.slice a0 d.nb c0, .slice a1 d.nc c1, .slice a2 d.ns c2] 33)) = v0 at *
  refine (OP.out _ (HV.out.below A1.out)).mono ?_
  rintro e v1 ⟨rfl, hb⟩
  replace A1 : Hid (Below w.heap.size w v1) := A1.out.trans (hb.mono A1.out.size)
  clear hb OP HV
  have fi := fieldSlot0 ((e0 : Int) - 1) BD v1
  go_wp2_with fail
  clear fi
  refine (BY.out _).mono ?_
  rintro e v2 ⟨⟨g, c, rfl, hg, hm⟩, hb⟩
  have hcv := kstr_of_code (c := c) hm.code
  rw [← HP.out] at hcv
  replace A1 : Hid (Below w.heap.size w v2) := A1.out.trans (hb.mono A1.out.size)
  have B1 : Hid (w.heap.size ≤ v2.heap.size) := A1.out.size
  clear hb hg hm BY HP
  go_wp2
  go_ret
  exact ⟨⟨v2.heap.size, rfl, B1.out, PlanR.made v2 (P : Int) PT⟩, A1.out.alloc A1.out.size _⟩
set_option maxRecDepth 100000 in
set_option maxHeartbeats 4000000 in
theorem specPlan_any (k s : ByteArray) (d : Dk) (a0 a1 a2 : Option Addr) (c0 c1 c2 : Nat) (n : Nat) (x : Int) (t : ByteArray) (code : Int) (hr : SpAns k s d n x t code) (hs : d.nb ≤ 1048576 ∧ d.nc ≤ 1048576 ∧ d.ns ≤ 1048576) (w : World) (h : DiskV w d a0 a1 a2) :
    Calls Tryz.prog 12 #[.string k, .agg #[.slice a0 d.nb c0, .slice a1 d.nc c1, .slice a2 d.ns c2], .string s] w fun e w' => RetP w.heap.size w' e n x t code ∧ Below w.heap.size w w' := by
  obtain ⟨cf, hf, hr⟩ := hr
  have BX : Hid (Box3 (w.alloc (.cells #[.slice a0 d.nb c0, .slice a1 d.nc c1, .slice a2 d.ns c2] 33)) w.heap.size 33 (.slice a0 d.nb c0) (.slice a1 d.nc c1) (.slice a2 d.ns c2)) := Box3.made _ _ _ _ _
  have A1 : Hid (Below w.heap.size w (w.alloc (.cells #[.slice a0 d.nb c0, .slice a1 d.nc c1, .slice a2 d.ns c2] 33))) := (Below.refl _ _).alloc (Nat.le_refl _) _
  have HV : Hid (DiskV w d a0 a1 a2) := h
  have t0 := BX.out.c0
  have t1 := BX.out.c1
  have t2 := BX.out.c2
  clear h
  by_cases hkk : k.size ≤ 65536 ∧ s.size ≤ 65536
  · have x1 : ¬ (65536 : Int) < (k.size : Int) := by omega
    have x2 : ¬ (65536 : Int) < (s.size : Int) := by omega
    have FA : Hid (∀ w : World, DiskV w d a0 a1 a2 → Calls Tryz.prog 23 #[.string k, .agg #[.slice a0 d.nb c0, .slice a1 d.nc c1, .slice a2 d.ns c2]] w fun e w' => e = .returned (.int .i64 cf) ∧ Below w.heap.size w w') := fun w h1 => l06Code_any k s d a0 a1 a2 c0 c1 c2 cf hf hkk hs w h1
    by_cases h0 : cf = 0
    · subst h0
      obtain ⟨k1, k2, k3⟩ := sfAns_zero hf
      have OP : Hid (∀ w : World, DiskV w d a0 a1 a2 → Calls Tryz.prog 24 #[.string k, .agg #[.slice a0 d.nb c0, .slice a1 d.nc c1, .slice a2 d.ns c2]] w fun e w' => e = .returned (.agg #[.int .i64 (bst k d 2).1, .string (bst k d 2).2]) ∧ Below w.heap.size w w') := fun w h => l06Open_any k d a0 a1 a2 c0 c1 c2 k1 k2 k3 w h
      have PL : Hid (∀ (e0 : Nat) (w : World), (bst k d 2).1 + 1 = (e0 : Int) → e0 < 4294967296 → s.size ≤ 170 → DiskV w d a0 a1 a2 → Calls Tryz.prog 31 #[.string k, .agg #[.slice a0 d.nb c0, .slice a1 d.nc c1, .slice a2 d.ns c2], .string s] w fun e w' => (∃ b, e = .returned (.slice (some ⟨b, 0, none⟩) 3 3) ∧ w.heap.size ≤ b ∧ PlanR w' b ((e0 % 2 : Nat) : Int) (planT k e0 s)) ∧ Below w.heap.size w w') := fun e0 w h1 h2 h3 h4 => l06Plan_any k s d a0 a1 a2 c0 c1 c2 e0 k1 k2 k3 h1 h2 h3 w h4
      have nn := bst_nn k d 2
      have ll := bst_lt k d 2
      have HR : Hid ((¬ (s.size ≤ 170 ∧ (bst k d 2).1 ≠ 4294967295) ∧ n = 0 ∧ code = 7) ∨ (s.size ≤ 170 ∧ (bst k d 2).1 ≠ 4294967295 ∧ n = 3 ∧ code = 0 ∧ ∃ e : Nat, (bst k d 2).1 + 1 = (e : Int) ∧ e < 4294967296 ∧ x = ((e % 2 : Nat) : Int) ∧ t = planT k e s)) := by
        rcases hr with ⟨h1, _⟩ | ⟨_, h1, h2, h3⟩ | ⟨_, h1, h2, h3, e, h4, h5, h6⟩
        · exact absurd rfl h1
        · exact .inl ⟨fun h => h1 ⟨by omega, by omega, h.1⟩, h2, h3⟩
        · have h7 := h1
          unfold SlotR at h7
          exact .inr ⟨h7.2.2, by omega, h2, h3, e, h4, by omega, h5, h6⟩
      generalize hB1 : (bst k d 2).1 = BE at *
      generalize (bst k d 2).2 = BD at *
      clear hf hs k1 k2 k3 hr hB1 hkk nn ll
      have go1 : True := trivial
      go_enter Tryz.func12, Tryz.ntmps12
      go_wp2_with fail
      clear t0 t1 t2
      generalize (w.alloc (.cells #[.slice a0 d.nb c0, .slice a1 d.nc c1, .slice a2 d.ns c2] 33)) = v0 at *
      refine (FA.out _ (HV.out.below A1.out)).mono ?_
      rintro e v1 ⟨rfl, hb⟩
      replace A1 : Hid (Below w.heap.size w v1) := A1.out.trans (hb.mono A1.out.size)
      replace BX : Hid (Box3 v1 w.heap.size 33 (.slice a0 d.nb c0) (.slice a1 d.nc c1) (.slice a2 d.ns c2)) := BX.out.below hb
      clear hb FA
      have t0 := BX.out.c0
      have t1 := BX.out.c1
      have t2 := BX.out.c2
      by_cases h170 : s.size ≤ 170
      · have y1 : ¬ (170 : Int) < (s.size : Int) := by omega
        go_wp2_with fail
        clear t0 t1 t2
        refine (OP.out _ (HV.out.below A1.out)).mono ?_
        rintro e v2 ⟨rfl, hb⟩
        replace A1 : Hid (Below w.heap.size w v2) := A1.out.trans (hb.mono A1.out.size)
        replace BX : Hid (Box3 v2 w.heap.size 33 (.slice a0 d.nb c0) (.slice a1 d.nc c1) (.slice a2 d.ns c2)) := BX.out.below hb
        clear hb OP
        have t0 := BX.out.c0
        have t1 := BX.out.c1
        have t2 := BX.out.c2
        rcases HR.out with ⟨hno, rfl, rfl⟩ | ⟨h1, h2, rfl, rfl, e0, he, h3, rfl, rfl⟩
        · have y2 : (BE == 4294967295) = true := by
            rw [beq_iff_eq]
            exact Classical.byContradiction (fun h => hno ⟨h170, h⟩)
          have fi := fieldSlot0 BE BD v2
          clear HR hno
          go_wp2
          go_ret2
          exact ⟨⟨_, _, 0, rfl, .inl rfl⟩, A1.out.alloc A1.out.size _⟩
        · have y2 : (BE == 4294967295) = false := by rw [beq_eq_false_iff_ne]; exact h2
          have PQ : Hid (∀ w : World, DiskV w d a0 a1 a2 → Calls Tryz.prog 31 #[.string k, .agg #[.slice a0 d.nb c0, .slice a1 d.nc c1, .slice a2 d.ns c2], .string s] w fun e w' => (∃ b, e = .returned (.slice (some ⟨b, 0, none⟩) 3 3) ∧ w.heap.size ≤ b ∧ PlanR w' b ((e0 % 2 : Nat) : Int) (planT k e0 s)) ∧ Below w.heap.size w w') := fun w h4 => PL.out e0 w he h3 h1 h4
          have fi := fieldSlot0 BE BD v2
          clear HR PL he h1 h2 h3
          go_wp2_with fail
          clear fi
          clear t0 t1 t2
          refine (PQ.out _ (HV.out.below A1.out)).mono ?_
          rintro e v5 ⟨⟨b, rfl, hbb, hpl⟩, hb⟩
          have PP : Hid (PlanR v5 b ((e0 % 2 : Nat) : Int) (planT k e0 s)) := hpl
          have LB : Hid (w.heap.size ≤ b) := Nat.le_trans A1.out.size hbb
          replace A1 : Hid (Below w.heap.size w v5) := A1.out.trans (hb.mono A1.out.size)
          clear hb hpl hbb PQ BX
          go_wp2
          go_ret2
          exact ⟨⟨_, _, b, rfl, .inr ⟨rfl, rfl, rfl, LB.out, PP.out⟩⟩, A1.out⟩
      · have y1 : (170 : Int) < (s.size : Int) := by omega
        rcases HR.out with ⟨hno, rfl, rfl⟩ | ⟨h1, _⟩
        · clear HR hno
          go_wp2
          go_ret2
          exact ⟨⟨_, _, 0, rfl, .inl rfl⟩, A1.out.alloc A1.out.size _⟩
        · exact absurd h1 h170
    · have x3 : (cf != 0) = true := by rw [bne_iff_ne]; exact h0
      obtain ⟨rfl, rfl⟩ : n = 0 ∧ code = cf := by
        rcases hr with ⟨_, h2, h3⟩ | ⟨h1, _⟩ | ⟨h1, _⟩
        · exact ⟨h2, h3⟩
        · exact absurd h1 h0
        · exact absurd h1 h0
      clear hf hs hr h0 hkk
      go_enter Tryz.func12, Tryz.ntmps12
      go_wp2_with fail
      clear t0 t1 t2
      generalize (w.alloc (.cells #[.slice a0 d.nb c0, .slice a1 d.nc c1, .slice a2 d.ns c2] 33)) = v0 at *
      refine (FA.out _ (HV.out.below A1.out)).mono ?_
      rintro e v1 ⟨rfl, hb⟩
      replace A1 : Hid (Below w.heap.size w v1) := A1.out.trans (hb.mono A1.out.size)
      clear hb BX FA
      go_wp2
      go_ret2
      exact ⟨⟨_, _, 0, rfl, .inl rfl⟩, A1.out.alloc A1.out.size _⟩
  · obtain ⟨rfl, rfl⟩ : n = 0 ∧ code = 2 := by
      have h2 : cf = 2 := by
        rcases hf with ⟨_, h⟩ | ⟨h1, h2, _⟩ | ⟨h1, h2, _⟩ | ⟨h1, h2, _⟩
        · exact h
        · exact absurd ⟨h1, h2⟩ hkk
        · exact absurd ⟨by omega, h2⟩ hkk
        · exact absurd ⟨by omega, h2⟩ hkk
      subst h2
      rcases hr with ⟨_, h2, h3⟩ | ⟨h1, _⟩ | ⟨h1, _⟩
      · exact ⟨h2, h3⟩
      · cases h1
      · cases h1
    clear hr hf hs t0 t1 t2 BX
    by_cases hk : k.size ≤ 65536
    · have x1 : ¬ (65536 : Int) < (k.size : Int) := by omega
      have x2 : (65536 : Int) < (s.size : Int) := by omega
      clear hk hkk
      go_enter Tryz.func12, Tryz.ntmps12
      go_wp2
      go_ret2
      exact ⟨⟨_, _, 0, rfl, .inl rfl⟩, A1.out.alloc A1.out.size _⟩
    · have x1 : (65536 : Int) < (k.size : Int) := by omega
      clear hk hkk
      go_enter Tryz.func12, Tryz.ntmps12
      go_wp2
      go_ret2
      exact ⟨⟨_, _, 0, rfl, .inl rfl⟩, A1.out.alloc A1.out.size _⟩
end Go.Proofs.YtbecnaabmlkjjabGreatDoor
namespace Go.Proofs.YtbecnaabmlkjjabGreatDoor
open Go.ChangeShapes Go.WideShapes Go.ChangeAt Go.RowKit
set_option linter.unusedVariables false
def PlA (B U : Nat) (w : World) (a : Option Addr) (c n : Nat) (x : Int) (t : ByteArray) : Prop := n = 0 ∨ (n = 3 ∧ c = 3 ∧ ∃ b, a = some ⟨b, 0, none⟩ ∧ B ≤ b ∧ b < U ∧ PlanR w b x t)
def PlM (w : World) (a : Option Addr) (n : Nat) : Prop := n = 0 ∨ (n = 3 ∧ ∃ b, a = some ⟨b, 0, none⟩ ∧ w.rowIs b 64 15 MV)
theorem RetP.pla {B : Nat} {w' : World} {e : Ending} {n : Nat} {x : Int} {t : ByteArray} {code : Int} (h : RetP B w' e n x t code) : ∃ a c, e = .returned (.tuple #[.slice a n c, .int .i64 code]) ∧ PlA B w'.heap.size w' a c n x t := by
  obtain ⟨a, c, b, he, h⟩ := h
  exact ⟨a, c, he, h.imp id (fun ⟨h1, h2, h3, h4, h5⟩ => ⟨h1, h2, b, h3, h4, h5.lt, h5⟩)⟩
theorem PlA.block {B U : Nat} {w w' : World} {a : Option Addr} {c n : Nat} {x : Int} {t : ByteArray} (h : PlA B U w a c n x t) (hb : ∀ b, b < w.heap.size → B ≤ b → b < U → w'.heap[b]? = w.heap[b]?) : PlA B U w' a c n x t :=
  h.imp id (fun ⟨h1, h2, b, h3, h4, h5, h6⟩ => ⟨h1, h2, b, h3, h4, h5, World.rowIs.of_block h6 (hb b h6.lt h4 h5)⟩)
theorem PlA.below {B U : Nat} {w w' : World} {a : Option Addr} {c n : Nat} {x : Int} {t : ByteArray} (h : PlA B U w a c n x t) (hb : Below w.heap.size w w') : PlA B U w' a c n x t := h.block (fun b h1 _ _ => hb.block b h1)
theorem PlA.keepR {B U lo hi : Nat} {w w' : World} {a : Option Addr} {c n : Nat} {x : Int} {t : ByteArray} (h : PlA B U w a c n x t) (hk : KeepR lo hi w w') (q : U ≤ lo ∨ hi ≤ B) : PlA B U w' a c n x t := h.block (fun b h1 h2 h3 => hk b h1 (by omega))
theorem PlM.below {w w' : World} {a : Option Addr} {n : Nat} (h : PlM w a n) (hb : Below w.heap.size w w') : PlM w' a n :=
  h.imp id (fun ⟨h1, b, h2, h3⟩ => ⟨h1, b, h2, World.rowIs.of_block h3 (hb.block b (World.rowIs.lt h3))⟩)
theorem eqPla (n : Nat) (x : Int) (t : ByteArray) (w : World) (a a' : Option Addr) (c c' B U B' U' : Nat) (h : PlA B U w a c n x t) (h' : PlA B' U' w a' c' n x t) :
    Calls Tryz.prog 14 #[.slice a n c, .slice a' n c'] w fun e w' => e = .returned (.bool true) ∧ Below w.heap.size w w' := by
  rcases h with rfl | ⟨rfl, rfl, b, rfl, -, -, hp⟩
  · exact eqActs_nil a a' c c' w
  · rcases h' with h' | ⟨-, rfl, b', rfl, -, -, hp'⟩
    · cases h'
    · exact eqActs_flat b b' 3 3 3 _ _ _ _ w hp.acs hp'.acs (by omega)
theorem markPla (n : Nat) (x : Int) (t : ByteArray) (B U : Nat) (w : World) (a : Option Addr) (c : Nat) (hw : B ≤ w.heap.size) (h : PlA B U w a c n x t) :
    Calls Tryz.prog 16 #[.slice a n c, .int .i64 1] w fun e w' => e = .returned (.int .i64 ((4 * n + 1 : Nat) : Int)) ∧ PlM w' a n ∧ Below B w w' := by
  rcases h with rfl | ⟨rfl, rfl, b, rfl, hB, -, hp⟩
  · exact (markActs_nil a c w).mono fun e w' ⟨h1, h2⟩ => ⟨h1, .inl rfl, by rw [← h2]; exact Below.refl _ _⟩
  · obtain ⟨F, hm⟩ := hp.mrk
    exact (markActs_any b 3 3 F (by omega) w hm).mono fun e w' ⟨h1, h2, h3⟩ => ⟨h1, .inr ⟨rfl, b, rfl, h2⟩, h3.toBelow hB hw⟩
theorem heldPla (n : Nat) (w : World) (a : Option Addr) (c : Nat) (h : PlM w a n) :
    Calls Tryz.prog 17 #[.slice a n c, .int .i64 1] w fun e w' => e = .returned (.int .i64 ((4 * n + 1 : Nat) : Int)) ∧ Below w.heap.size w w' := by
  rcases h with rfl | ⟨rfl, b, rfl, hr⟩
  · exact heldActs_nil a c w
  · exact heldActs_any b 3 c (by omega) w hr
end Go.Proofs.YtbecnaabmlkjjabGreatDoor
namespace Go.Proofs.YtbecnaabmlkjjabGreatDoor
open Go.ChangeShapes Go.WideShapes Go.ChangeAt Go.RowKit
set_option linter.unusedVariables false
set_option maxRecDepth 100000 in
set_option maxHeartbeats 8000000 in
theorem law_slotPlan (k : ByteArray) (d : Dk) (s : ByteArray) (a0 a1 a2 : Option Addr) (c0 c1 c2 : Nat) (l0 : d.nb ≤ maxLen) (l1 : d.nc ≤ maxLen) (l2 : d.ns ≤ maxLen) (m0 : ∀ i, i < d.nb → (d.B i).size ≤ maxLen) (m1 : ∀ i, i < d.nc → (d.D i).size ≤ maxLen) (m2 : ∀ i, i < d.ns → (d.S i).size ≤ maxLen) (p0 p1 : Addr) (w : World) (h : DiskV w d a0 a1 a2) (hE0 : ErrAt w 3 p0) (hE1 : ErrAt w 4 p1) (ht : Tabs w) :
    Calls Tryz.prog 4 #[.string k, .agg #[.slice a0 d.nb c0, .slice a1 d.nc c1, .slice a2 d.ns c2], .string s] w fun e w' => e = .returned (.bool true) ∧ Below w.heap.size w w' := by
  have A1 : Hid (Below w.heap.size w (w.alloc (.cells #[.slice a0 d.nb c0, .slice a1 d.nc c1, .slice a2 d.ns c2] 25))) := (Below.refl _ _).alloc (Nat.le_refl _) _
  by_cases hk : k.size ≤ 1048576
  rotate_left
  · have x1 : (1048576 : Int) < (k.size : Int) := by omega
    clear h hE0 hE1 ht l0 l1 l2 m0 m1 m2
    go_enter Tryz.func4, Tryz.ntmps4
    go_wp2
    go_ret
    exact ⟨rfl, A1.out⟩
  have x1 : ¬ (1048576 : Int) < (k.size : Int) := by omega
  by_cases hs : s.size ≤ 1048576
  rotate_left
  · have x2 : (1048576 : Int) < (s.size : Int) := by omega
    clear h hE0 hE1 ht l0 l1 l2 m0 m1 m2
    go_enter Tryz.func4, Tryz.ntmps4
    go_wp2
    go_ret
    exact ⟨rfl, A1.out⟩
  have x2 : ¬ (1048576 : Int) < (s.size : Int) := by omega
  have SZ1 : Hid (∀ (x : Int) (w : World), 0 ≤ x → x ≤ 1048576 → DiskV w d a0 a1 a2 → Calls Tryz.prog 6 #[.agg #[.slice a0 d.nb c0, .slice a1 d.nc c1, .slice a2 d.ns c2], .int .i64 x] w fun e w' => (∃ y : Int, e = .returned (.int .i64 y) ∧ y ≤ 1048576 ∧ (0 ≤ y → d.nb ≤ 1048576 ∧ d.nc ≤ 1048576 ∧ d.ns ≤ 1048576)) ∧ Below w.heap.size w w') := fun x w hx hx' h => szDisk_x d a0 a1 a2 c0 c1 c2 x hx hx' w h l0 l1 l2 m0 m1 m2
  have HX : Hid (DiskV w d a0 a1 a2) := h
  have HE : Hid (ErrAt w 3 p0 ∧ ErrAt w 4 p1) := ⟨hE0, hE1⟩
  have HT : Hid (Tabs w) := ht
  clear h hE0 hE1 ht l0 l1 l2 m0 m1 m2 hk hs
  have RA : Hid (Box3 (w.alloc (.cells #[.slice a0 d.nb c0, .slice a1 d.nc c1, .slice a2 d.ns c2] 25)) w.heap.size 25 (.slice a0 d.nb c0) (.slice a1 d.nc c1) (.slice a2 d.ns c2)) := Box3.made _ _ _ _ _
  have j0 := RA.out.c0
  have j1 := RA.out.c1
  have j2 := RA.out.c2
  go_enter Tryz.func4, Tryz.ntmps4
  go_wp2_with fail
  clear j0 j1 j2
  generalize (w.alloc (.cells #[.slice a0 d.nb c0, .slice a1 d.nc c1, .slice a2 d.ns c2] 25)) = v1 at *
  refine (SZ1.out _ _ (by omega) (by omega) (HX.out.below A1.out)).mono ?_
  rintro e v2 ⟨⟨y, rfl, hy, hy2⟩, hb⟩
  replace A1 : Hid (Below w.heap.size w v2) := A1.out.trans (hb.mono A1.out.size)
  replace RA : Hid (Box3 v2 w.heap.size 25 (.slice a0 d.nb c0) (.slice a1 d.nc c1) (.slice a2 d.ns c2)) := RA.out.below hb
  clear hb SZ1
  by_cases hy0 : y < 0
  · clear hy2
    go_wp2
    go_ret
    exact ⟨rfl, A1.out⟩
  obtain ⟨h0, h1, h2⟩ := hy2 (by omega)
  clear hy2
  obtain ⟨n, x, t, code, hr⟩ := spAns_ex k s d
  have TD : Hid (∀ w : World, DiskV w d a0 a1 a2 → Calls Tryz.prog 8 #[.agg #[.slice a0 d.nb c0, .slice a1 d.nc c1, .slice a2 d.ns c2]] w fun e w' => (∃ g0 g1 g2, e = .returned (.agg #[.slice (some ⟨g0, 0, none⟩) d.nb d.nb, .slice (some ⟨g1, 0, none⟩) d.nc d.nc, .slice (some ⟨g2, 0, none⟩) d.ns d.ns]) ∧ RowD w' d (some ⟨g0, 0, none⟩) (some ⟨g1, 0, none⟩) (some ⟨g2, 0, none⟩) g0 g1 g2 ∧ GeD d g0 g1 g2 w.heap.size) ∧ Below w.heap.size w w') := fun w h => toDisk_row d a0 a1 a2 c0 c1 c2 w h h0 h1 h2
  have SO : Hid (∀ (w : World) (x0 x1 x2 : Nat), DiskV w d (some ⟨x0, 0, none⟩) (some ⟨x1, 0, none⟩) (some ⟨x2, 0, none⟩) → Calls Tryz.prog 12 #[.string k, .agg #[.slice (some ⟨x0, 0, none⟩) d.nb d.nb, .slice (some ⟨x1, 0, none⟩) d.nc d.nc, .slice (some ⟨x2, 0, none⟩) d.ns d.ns], .string s] w fun e w' => (∃ a c, e = .returned (.tuple #[.slice a n c, .int .i64 code]) ∧ PlA w.heap.size w'.heap.size w' a c n x t) ∧ Below w.heap.size w w') := fun w x0 x1 x2 h => (specPlan_any k s d _ _ _ _ _ _ n x t code hr ⟨h0, h1, h2⟩ w h).mono fun e w' q => ⟨q.1.pla, q.2⟩
  have IY : Hid (∀ (w : World) (x0 x1 x2 : Nat), DiskV w d (some ⟨x0, 0, none⟩) (some ⟨x1, 0, none⟩) (some ⟨x2, 0, none⟩) → ErrAt w 3 p0 → ErrAt w 4 p1 → Tabs w → Calls Tryz.prog 13 #[.string k, .agg #[.slice (some ⟨x0, 0, none⟩) d.nb d.nb, .slice (some ⟨x1, 0, none⟩) d.nc d.nc, .slice (some ⟨x2, 0, none⟩) d.ns d.ns], .string s] w fun e w' => (∃ a c, e = .returned (.tuple #[.slice a n c, .int .i64 code]) ∧ PlA w.heap.size w'.heap.size w' a c n x t) ∧ Below w.heap.size w w') := fun w x0 x1 x2 h h1' h2' h3' => (implPlan_any k s d _ _ _ _ _ _ n x t code hr ⟨h0, h1, h2⟩ p0 p1 w h h1' h2' h3').mono fun e w' q => ⟨q.1.pla, q.2⟩
  have EQ : Hid (∀ (w : World) (a a' : Option Addr) (c c' B U B' U' : Nat), PlA B U w a c n x t → PlA B' U' w a' c' n x t → Calls Tryz.prog 14 #[.slice a n c, .slice a' n c'] w fun e w' => e = .returned (.bool true) ∧ Below w.heap.size w w') := fun w a a' c c' B U B' U' h h' => eqPla n x t w a a' c c' B U B' U' h h'
  have ED : Hid (∀ (w : World) (x0 x1 x2 y0 y1 y2 : Option Addr), DiskV w d x0 x1 x2 → DiskV w d y0 y1 y2 → Calls Tryz.prog 11 #[.agg #[.slice x0 d.nb d.nb, .slice x1 d.nc d.nc, .slice x2 d.ns d.ns], .agg #[.slice y0 d.nb d.nb, .slice y1 d.nc d.nc, .slice y2 d.ns d.ns]] w fun e w' => e = .returned (.bool true) ∧ Below w.heap.size w w') := fun w x0 x1 x2 y0 y1 y2 h h' => eqDisk_yes d d x0 x1 x2 y0 y1 y2 _ _ _ _ _ _ w h h' rfl rfl rfl (fun _ _ => rfl) (fun _ _ => ⟨rfl, rfl⟩) (fun _ _ => rfl) h0 h1 h2
  obtain ⟨N, hN⟩ : ∃ M, M = 1 + d.nb + 2 * d.nc + d.ns := ⟨_, rfl⟩
  have MD : Hid (∀ (B : Nat) (w : World) (x0 x1 x2 : Option Addr) (r0 r1 r2 g0 g1 g2 : Nat), GeD d g0 g1 g2 B → B ≤ w.heap.size → RowD w d x0 x1 x2 g0 g1 g2 → Calls Tryz.prog 15 #[.agg #[.slice x0 d.nb r0, .slice x1 d.nc r1, .slice x2 d.ns r2], .int .i64 1] w fun e w' => e = .returned (.int .i64 (N : Int)) ∧ RowD w' (markK d 1) x0 x1 x2 g0 g1 g2 ∧ KeepG w w' d g0 g1 g2 ∧ Below B w w') := fun B w x0 x1 x2 r0 r1 r2 g0 g1 g2 hB hw h => by rw [hN]; exact markDisk_any B d x0 x1 x2 r0 r1 r2 g0 g1 g2 1 (by omega) (by omega) hB w hw h
  obtain ⟨M, hM⟩ : ∃ M, M = 4 * n + 1 := ⟨_, rfl⟩
  have MK : Hid (∀ (B U : Nat) (w : World) (a : Option Addr) (c : Nat), B ≤ w.heap.size → PlA B U w a c n x t → Calls Tryz.prog 16 #[.slice a n c, .int .i64 1] w fun e w' => e = .returned (.int .i64 (M : Int)) ∧ PlM w' a n ∧ Below B w w') := fun B U w a c hw h => by rw [hM]; exact markPla n x t B U w a c hw h
  have HD : Hid (∀ (w : World) (a : Option Addr) (c : Nat), PlM w a n → Calls Tryz.prog 17 #[.slice a n c, .int .i64 1] w fun e w' => e = .returned (.int .i64 (M : Int)) ∧ Below w.heap.size w w') := fun w a c h => by rw [hM]; exact heldPla n w a c h
  have er : (code != code) = false := by simp
  have er2 : ((M : Int) != (M : Int)) = false := by simp
  have mm0 : ¬ (M : Int) < 0 := by omega
  have mm1 : ¬ (N : Int) < 0 := by omega
  clear hr h0 h1 h2 hy hN hM
  have j0 := RA.out.c0
  have j1 := RA.out.c1
  have j2 := RA.out.c2
  go_wp2_with fail
  clear j0 j1 j2
  clear hy0
  refine (TD.out _ (HX.out.below A1.out)).mono ?_
  rintro e v3 ⟨⟨f0, f1, f2, rfl, rd, gd⟩, hb⟩
  replace A1 : Hid (Below w.heap.size w v3) := A1.out.trans (hb.mono A1.out.size)
  replace RA : Hid (Box3 v3 w.heap.size 25 (.slice a0 d.nb c0) (.slice a1 d.nc c1) (.slice a2 d.ns c2)) := RA.out.below hb
  have V1 : Hid (RowD v3 d (some ⟨f0, 0, none⟩) (some ⟨f1, 0, none⟩) (some ⟨f2, 0, none⟩) f0 f1 f2) := rd
  clear hb rd gd
  go_wp2_with fail
  refine (SO.out _ _ _ _ V1.out.diskV).mono ?_
  rintro e v4 ⟨⟨wa, wc, rfl, hw0⟩, hb⟩
  replace A1 : Hid (Below w.heap.size w v4) := A1.out.trans (hb.mono A1.out.size)
  replace RA : Hid (Box3 v4 w.heap.size 25 (.slice a0 d.nb c0) (.slice a1 d.nc c1) (.slice a2 d.ns c2)) := RA.out.below hb
  replace V1 : Hid (RowD v4 d (some ⟨f0, 0, none⟩) (some ⟨f1, 0, none⟩) (some ⟨f2, 0, none⟩) f0 f1 f2) := V1.out.below hb
  obtain ⟨B1, hB1⟩ : ∃ B, B = v4.heap.size := ⟨_, rfl⟩
  have W0 : Hid (PlA 0 B1 v4 wa wc n x t) := by rw [hB1]; exact hw0.imp id (fun ⟨h1, h2, b, h3, h4, h5, h6⟩ => ⟨h1, h2, b, h3, Nat.zero_le _, h5, h6⟩)
  have P1 : Hid (w.heap.size < B1) := by rw [hB1]; exact RA.out.lt
  have S1 : Hid (B1 ≤ v4.heap.size) := Nat.le_of_eq hB1
  clear hb hw0 SO
  clear V1
  have j0 := RA.out.c0
  have j1 := RA.out.c1
  have j2 := RA.out.c2
  go_wp2_with fail
  clear j0 j1 j2
  refine (TD.out _ (HX.out.below A1.out)).mono ?_
  rintro e v5 ⟨⟨x0, x1', x2', rfl, rd, gd⟩, hb⟩
  have P2 : Hid (GeD d x0 x1' x2' B1) := by rw [hB1]; exact gd
  replace A1 : Hid (Below w.heap.size w v5) := A1.out.trans (hb.mono A1.out.size)
  replace RA : Hid (Box3 v5 w.heap.size 25 (.slice a0 d.nb c0) (.slice a1 d.nc c1) (.slice a2 d.ns c2)) := RA.out.below hb
  replace W0 : Hid (PlA 0 B1 v5 wa wc n x t) := W0.out.below hb
  replace S1 : Hid (B1 ≤ (v5).heap.size) := Nat.le_trans S1.out hb.size
  have VX : Hid (RowD v5 d (some ⟨x0, 0, none⟩) (some ⟨x1', 0, none⟩) (some ⟨x2', 0, none⟩) x0 x1' x2') := rd
  clear hb rd gd hB1
  have hb : Below v5.heap.size v5 (v5.alloc (.cells #[.slice (some ⟨x0, 0, none⟩) d.nb d.nb, .slice (some ⟨x1', 0, none⟩) d.nc d.nc, .slice (some ⟨x2', 0, none⟩) d.ns d.ns] 33)) := (Below.refl _ _).alloc (Nat.le_refl _) _
  have X0 : Hid (Box3 (v5.alloc (.cells #[.slice (some ⟨x0, 0, none⟩) d.nb d.nb, .slice (some ⟨x1', 0, none⟩) d.nc d.nc, .slice (some ⟨x2', 0, none⟩) d.ns d.ns] 33)) v5.heap.size 33 (.slice (some ⟨x0, 0, none⟩) d.nb d.nb) (.slice (some ⟨x1', 0, none⟩) d.nc d.nc) (.slice (some ⟨x2', 0, none⟩) d.ns d.ns)) := Box3.made _ _ _ _ _
  go_wp2_with fail
  generalize (v5.alloc (.cells #[.slice (some ⟨x0, 0, none⟩) d.nb d.nb, .slice (some ⟨x1', 0, none⟩) d.nc d.nc, .slice (some ⟨x2', 0, none⟩) d.ns d.ns] 33)) = v6 at *
  replace A1 : Hid (Below w.heap.size w v6) := A1.out.trans (hb.mono A1.out.size)
  replace RA : Hid (Box3 v6 w.heap.size 25 (.slice a0 d.nb c0) (.slice a1 d.nc c1) (.slice a2 d.ns c2)) := RA.out.below hb
  replace W0 : Hid (PlA 0 B1 v6 wa wc n x t) := W0.out.below hb
  replace S1 : Hid (B1 ≤ (v6).heap.size) := Nat.le_trans S1.out hb.size
  replace VX : Hid (RowD v6 d (some ⟨x0, 0, none⟩) (some ⟨x1', 0, none⟩) (some ⟨x2', 0, none⟩) x0 x1' x2') := VX.out.below hb
  clear hb 
  obtain ⟨bx, hbx⟩ : ∃ bx, bx = v5.heap.size := ⟨_, rfl⟩
  rw [← hbx] at X0 ⊢
  clear hbx
  obtain ⟨Bi, hBi⟩ : ∃ B, B = v6.heap.size := ⟨_, rfl⟩
  have P3 : Hid (LtD d x0 x1' x2' Bi ∧ B1 ≤ Bi) := by rw [hBi]; exact ⟨VX.out.ltD, S1.out⟩
  refine (IY.out _ _ _ _ VX.out.diskV (HE.out.1.below A1.out) (HE.out.2.below A1.out) (HT.out.below A1.out)).mono ?_
  rintro e v7 ⟨⟨ga, gc, rfl, hg0⟩, hb⟩
  obtain ⟨U, hU⟩ : ∃ U, U = v7.heap.size := ⟨_, rfl⟩
  have G0 : Hid (PlA Bi U v7 ga gc n x t) := by rw [hBi, hU]; exact hg0
  have S2 : Hid (Bi ≤ v7.heap.size) := by rw [hBi]; exact hb.size
  replace A1 : Hid (Below w.heap.size w v7) := A1.out.trans (hb.mono A1.out.size)
  replace RA : Hid (Box3 v7 w.heap.size 25 (.slice a0 d.nb c0) (.slice a1 d.nc c1) (.slice a2 d.ns c2)) := RA.out.below hb
  replace W0 : Hid (PlA 0 B1 v7 wa wc n x t) := W0.out.below hb
  replace S1 : Hid (B1 ≤ (v7).heap.size) := Nat.le_trans S1.out hb.size
  replace VX : Hid (RowD v7 d (some ⟨x0, 0, none⟩) (some ⟨x1', 0, none⟩) (some ⟨x2', 0, none⟩) x0 x1' x2') := VX.out.below hb
  replace X0 : Hid (Box3 v7 bx 33 (.slice (some ⟨x0, 0, none⟩) d.nb d.nb) (.slice (some ⟨x1', 0, none⟩) d.nc d.nc) (.slice (some ⟨x2', 0, none⟩) d.ns d.ns)) := X0.out.below hb
  clear hb hg0 hU hBi
  go_wp2_with fail
  refine (EQ.out _ _ _ _ _ _ _ _ _ G0.out W0.out).mono ?_
  rintro e v8 ⟨rfl, hb⟩
  replace A1 : Hid (Below w.heap.size w v8) := A1.out.trans (hb.mono A1.out.size)
  replace RA : Hid (Box3 v8 w.heap.size 25 (.slice a0 d.nb c0) (.slice a1 d.nc c1) (.slice a2 d.ns c2)) := RA.out.below hb
  replace W0 : Hid (PlA 0 B1 v8 wa wc n x t) := W0.out.below hb
  replace S1 : Hid (B1 ≤ (v8).heap.size) := Nat.le_trans S1.out hb.size
  replace VX : Hid (RowD v8 d (some ⟨x0, 0, none⟩) (some ⟨x1', 0, none⟩) (some ⟨x2', 0, none⟩) x0 x1' x2') := VX.out.below hb
  replace X0 : Hid (Box3 v8 bx 33 (.slice (some ⟨x0, 0, none⟩) d.nb d.nb) (.slice (some ⟨x1', 0, none⟩) d.nc d.nc) (.slice (some ⟨x2', 0, none⟩) d.ns d.ns)) := X0.out.below hb
  replace G0 : Hid (PlA Bi U v8 ga gc n x t) := G0.out.below hb
  replace S2 : Hid (Bi ≤ (v8).heap.size) := Nat.le_trans S2.out hb.size
  clear hb 
  have s0 := X0.out.c0
  have s1 := X0.out.c1
  have s2 := X0.out.c2
  have j0 := RA.out.c0
  have j1 := RA.out.c1
  have j2 := RA.out.c2
  go_wp2_with fail
  clear s0 s1 s2 j0 j1 j2
  have hb : Below v8.heap.size v8 v8.drew := (Below.refl _ _).drew
  have H : (Box3 v8.drew w.heap.size 25 (.slice a0 d.nb c0) (.slice a1 d.nc c1) (.slice a2 d.ns c2)) ∧ (Box3 v8.drew bx 33 (.slice (some ⟨x0, 0, none⟩) d.nb d.nb) (.slice (some ⟨x1', 0, none⟩) d.nc d.nc) (.slice (some ⟨x2', 0, none⟩) d.ns d.ns)) := ⟨RA.out.below hb, X0.out.below hb⟩
  replace A1 : Hid (Below w.heap.size w v8.drew) := A1.out.trans (hb.mono A1.out.size)
  replace W0 : Hid (PlA 0 B1 v8.drew wa wc n x t) := W0.out.below hb
  replace S1 : Hid (B1 ≤ (v8.drew).heap.size) := Nat.le_trans S1.out hb.size
  replace VX : Hid (RowD v8.drew d (some ⟨x0, 0, none⟩) (some ⟨x1', 0, none⟩) (some ⟨x2', 0, none⟩) x0 x1' x2') := VX.out.below hb
  replace G0 : Hid (PlA Bi U v8.drew ga gc n x t) := G0.out.below hb
  replace S2 : Hid (Bi ≤ (v8.drew).heap.size) := Nat.le_trans S2.out hb.size
  clear hb RA X0
  refine wp_region_noPanic ?_
  refine wp_region_held_drew (S := fun w' => (Box3 w' w.heap.size 25 (.slice a0 d.nb c0) (.slice a1 d.nc c1) (.slice a2 d.ns c2)) ∧ (Box3 w' bx 33 (.slice (some ⟨x0, 0, none⟩) d.nb d.nb) (.slice (some ⟨x1', 0, none⟩) d.nc d.nc) (.slice (some ⟨x2', 0, none⟩) d.ns d.ns))) (by kernel_rfl) H (fun _ => ?_)
  generalize v8.drew = v9 at *
  refine wpAnyH_take (i := 0) (v := .agg #[.slice (some ⟨x0, 0, none⟩) d.nb d.nb, .slice (some ⟨x1', 0, none⟩) d.nc d.nc, .slice (some ⟨x2', 0, none⟩) d.ns d.ns]) rfl (by kernel_rfl) (by kernel_rfl) (by kernel_rfl) (fun _ _ _ h => h) (Or.inl ⟨by rfl, ?_⟩) H ?_
  · intro w' hSw; have t0 := hSw.2.c0; have t1 := hSw.2.c1; have t2 := hSw.2.c2; clear hSw; go_simp
  change wpAnyH _ _ _ _ _ _ _ { tmps := #[_,_,_,_,_,_,_,_,_,_,_,_,_,_,_,_,_,_,_,_,_,_,_,_,_,_,_,_,_,_,_,_,_,_,_,_,_,_,_,_,_,_,_,_,_,_,_,_,_,_,_,_,_,_,_,_,_,_,_,_,_,_,_,_,_,_,_,_,_,_,_,_,_,_,_,_,_,_,_,_,_,_,_,_,_,_,_,_,_,_,_,_,_,_,_,_,_,_,_,_,_,_,_,_,_,_,_,_,_,_,_,_], defers := _ } _
  refine wpAnyH_take (i := 1) (v := .agg #[.slice a0 d.nb c0, .slice a1 d.nc c1, .slice a2 d.ns c2]) rfl (by kernel_rfl) (by kernel_rfl) (by kernel_rfl) (fun _ _ _ h => h) (Or.inl ⟨by rfl, ?_⟩) H ?_
  · intro w' hSw; have t0 := hSw.1.c0; have t1 := hSw.1.c1; have t2 := hSw.1.c2; clear hSw; go_simp
  change wpAnyH _ _ _ _ _ _ _ { tmps := #[_,_,_,_,_,_,_,_,_,_,_,_,_,_,_,_,_,_,_,_,_,_,_,_,_,_,_,_,_,_,_,_,_,_,_,_,_,_,_,_,_,_,_,_,_,_,_,_,_,_,_,_,_,_,_,_,_,_,_,_,_,_,_,_,_,_,_,_,_,_,_,_,_,_,_,_,_,_,_,_,_,_,_,_,_,_,_,_,_,_,_,_,_,_,_,_,_,_,_,_,_,_,_,_,_,_,_,_,_,_,_,_], defers := _ } _
  refine wpAnyH_ready (rs := [2]) (by kernel_rfl) (by simp) ?_
  refine AllReadyH.cons rfl (fun KK hK => ?_) AllReadyH.nil
  go_simp
  refine (TD.out _ (HX.out.below A1.out)).mono ?_
  rintro e v10 ⟨⟨m0, m1, m2, rfl, rd, gd⟩, hb⟩
  replace A1 : Hid (Below w.heap.size w v10) := A1.out.trans (hb.mono A1.out.size)
  replace W0 : Hid (PlA 0 B1 v10 wa wc n x t) := W0.out.below hb
  replace S1 : Hid (B1 ≤ (v10).heap.size) := Nat.le_trans S1.out hb.size
  replace VX : Hid (RowD v10 d (some ⟨x0, 0, none⟩) (some ⟨x1', 0, none⟩) (some ⟨x2', 0, none⟩) x0 x1' x2') := VX.out.below hb
  replace G0 : Hid (PlA Bi U v10 ga gc n x t) := G0.out.below hb
  replace S2 : Hid (Bi ≤ (v10).heap.size) := Nat.le_trans S2.out hb.size
  replace H : (Box3 v10 w.heap.size 25 (.slice a0 d.nb c0) (.slice a1 d.nc c1) (.slice a2 d.ns c2)) ∧ (Box3 v10 bx 33 (.slice (some ⟨x0, 0, none⟩) d.nb d.nb) (.slice (some ⟨x1', 0, none⟩) d.nc d.nc) (.slice (some ⟨x2', 0, none⟩) d.ns d.ns)) := ⟨H.1.below hb, H.2.below hb⟩
  have V3 : Hid (RowD v10 d (some ⟨m0, 0, none⟩) (some ⟨m1, 0, none⟩) (some ⟨m2, 0, none⟩) m0 m1 m2) := rd
  clear hb rd gd
  refine hK.out _ _ H (fun _ => ?_)
  clear hK KK
  change wpAnyH _ _ _ _ _ _ _ { tmps := #[_,_,_,_,_,_,_,_,_,_,_,_,_,_,_,_,_,_,_,_,_,_,_,_,_,_,_,_,_,_,_,_,_,_,_,_,_,_,_,_,_,_,_,_,_,_,_,_,_,_,_,_,_,_,_,_,_,_,_,_,_,_,_,_,_,_,_,_,_,_,_,_,_,_,_,_,_,_,_,_,_,_,_,_,_,_,_,_,_,_,_,_,_,_,_,_,_,_,_,_,_,_,_,_,_,_,_,_,_,_,_,_], defers := _ } _
  refine wpAnyH_ready (rs := [3]) (by kernel_rfl) (by simp) ?_
  refine AllReadyH.cons rfl (fun KK hK => ?_) AllReadyH.nil
  go_simp
  refine (ED.out _ _ _ _ _ _ _ VX.out.diskV V3.out.diskV).mono ?_
  rintro e v11 ⟨rfl, hb⟩
  replace A1 : Hid (Below w.heap.size w v11) := A1.out.trans (hb.mono A1.out.size)
  replace W0 : Hid (PlA 0 B1 v11 wa wc n x t) := W0.out.below hb
  replace S1 : Hid (B1 ≤ (v11).heap.size) := Nat.le_trans S1.out hb.size
  replace VX : Hid (RowD v11 d (some ⟨x0, 0, none⟩) (some ⟨x1', 0, none⟩) (some ⟨x2', 0, none⟩) x0 x1' x2') := VX.out.below hb
  replace G0 : Hid (PlA Bi U v11 ga gc n x t) := G0.out.below hb
  replace S2 : Hid (Bi ≤ (v11).heap.size) := Nat.le_trans S2.out hb.size
  replace V3 : Hid (RowD v11 d (some ⟨m0, 0, none⟩) (some ⟨m1, 0, none⟩) (some ⟨m2, 0, none⟩) m0 m1 m2) := V3.out.below hb
  replace H : (Box3 v11 w.heap.size 25 (.slice a0 d.nb c0) (.slice a1 d.nc c1) (.slice a2 d.ns c2)) ∧ (Box3 v11 bx 33 (.slice (some ⟨x0, 0, none⟩) d.nb d.nb) (.slice (some ⟨x1', 0, none⟩) d.nc d.nc) (.slice (some ⟨x2', 0, none⟩) d.ns d.ns)) := ⟨H.1.below hb, H.2.below hb⟩
  clear hb 
  refine hK.out _ _ H (fun _ => ?_)
  clear hK KK
  change wpAnyH _ _ _ _ _ _ _ { tmps := #[_,_,_,_,_,_,_,_,_,_,_,_,_,_,_,_,_,_,_,_,_,_,_,_,_,_,_,_,_,_,_,_,_,_,_,_,_,_,_,_,_,_,_,_,_,_,_,_,_,_,_,_,_,_,_,_,_,_,_,_,_,_,_,_,_,_,_,_,_,_,_,_,_,_,_,_,_,_,_,_,_,_,_,_,_,_,_,_,_,_,_,_,_,_,_,_,_,_,_,_,_,_,_,_,_,_,_,_,_,_,_,_], defers := _ } _
  refine wpAnyH_take (i := 4) (v := .bool false) rfl (by kernel_rfl) (by kernel_rfl) (by kernel_rfl) (fun _ _ _ h => h) (Or.inl ⟨by rfl, ?_⟩) H ?_
  · intro w' hSw; go_simp
  change wpAnyH _ _ _ _ _ _ _ { tmps := #[_,_,_,_,_,_,_,_,_,_,_,_,_,_,_,_,_,_,_,_,_,_,_,_,_,_,_,_,_,_,_,_,_,_,_,_,_,_,_,_,_,_,_,_,_,_,_,_,_,_,_,_,_,_,_,_,_,_,_,_,_,_,_,_,_,_,_,_,_,_,_,_,_,_,_,_,_,_,_,_,_,_,_,_,_,_,_,_,_,_,_,_,_,_,_,_,_,_,_,_,_,_,_,_,_,_,_,_,_,_,_,_], defers := _ } _
  have RA : Hid (Box3 v11 w.heap.size 25 (.slice a0 d.nb c0) (.slice a1 d.nc c1) (.slice a2 d.ns c2)) := H.1
  have X0 : Hid (Box3 v11 bx 33 (.slice (some ⟨x0, 0, none⟩) d.nb d.nb) (.slice (some ⟨x1', 0, none⟩) d.nc d.nc) (.slice (some ⟨x2', 0, none⟩) d.ns d.ns)) := H.2
  clear H
  refine wpAnyH_done (by kernel_rfl) ?_ _
  refine NoPanic.normal ?_
  clear V3
  have s0 := X0.out.c0
  have s1 := X0.out.c1
  have s2 := X0.out.c2
  go_wp2_with fail
  clear s0 s1 s2
  refine (MD.out B1 _ _ _ _ _ _ _ _ _ _ P2.out S1.out VX.out).mono ?_
  rintro e v12 ⟨rfl, -, hk0, hb⟩
  have hk : KeepR B1 Bi v11 v12 := hk0.keepR P2.out P3.out.1
  replace A1 : Hid (Below w.heap.size w v12) := A1.out.trans (hb.mono (Nat.le_of_lt P1.out))
  replace RA : Hid (Box3 v12 w.heap.size 25 (.slice a0 d.nb c0) (.slice a1 d.nc c1) (.slice a2 d.ns c2)) := RA.out.keepR hk (.inl P1.out)
  replace W0 : Hid (PlA 0 B1 v12 wa wc n x t) := W0.out.keepR hk (.inl (Nat.le_refl _))
  replace G0 : Hid (PlA Bi U v12 ga gc n x t) := G0.out.keepR hk (.inr (Nat.le_refl _))
  replace S2 : Hid (Bi ≤ v12.heap.size) := Nat.le_trans S2.out hb.size
  clear hk hk0 hb VX X0 S1 MD P2
  go_wp2_with fail
  refine (EQ.out _ _ _ _ _ _ _ _ _ G0.out W0.out).mono ?_
  rintro e v13 ⟨rfl, hb⟩
  replace A1 : Hid (Below w.heap.size w v13) := A1.out.trans (hb.mono A1.out.size)
  replace W0 : Hid (PlA 0 B1 v13 wa wc n x t) := W0.out.below hb
  replace G0 : Hid (PlA Bi U v13 ga gc n x t) := G0.out.below hb
  replace S2 : Hid (Bi ≤ (v13).heap.size) := Nat.le_trans S2.out hb.size
  replace RA : Hid (Box3 v13 w.heap.size 25 (.slice a0 d.nb c0) (.slice a1 d.nc c1) (.slice a2 d.ns c2)) := RA.out.below hb
  clear hb 
  go_wp2_with fail
  refine (MK.out Bi U _ _ _ S2.out G0.out).mono ?_
  rintro e v14 ⟨rfl, hpm, hb⟩
  have pw : w.heap.size < Bi := Nat.lt_of_lt_of_le P1.out P3.out.2
  replace A1 : Hid (Below w.heap.size w v14) := A1.out.trans (hb.mono (Nat.le_of_lt pw))
  replace RA : Hid (Box3 v14 w.heap.size 25 (.slice a0 d.nb c0) (.slice a1 d.nc c1) (.slice a2 d.ns c2)) := RA.out.ofBlock (hb.block _ pw)
  replace W0 : Hid (PlA 0 B1 v14 wa wc n x t) := W0.out.block (fun b _ _ h3 => hb.block b (Nat.lt_of_lt_of_le h3 P3.out.2))
  have M0 : Hid (PlM v14 ga n) := hpm
  clear hb hpm pw G0 S2 MK P1 P3
  go_wp2_with fail
  refine (HD.out _ _ _ M0.out).mono ?_
  rintro e v15 ⟨rfl, hb⟩
  replace A1 : Hid (Below w.heap.size w v15) := A1.out.trans (hb.mono A1.out.size)
  replace W0 : Hid (PlA 0 B1 v15 wa wc n x t) := W0.out.below hb
  replace RA : Hid (Box3 v15 w.heap.size 25 (.slice a0 d.nb c0) (.slice a1 d.nc c1) (.slice a2 d.ns c2)) := RA.out.below hb
  replace M0 : Hid (PlM v15 ga n) := M0.out.below hb
  clear hb 
  have j0 := RA.out.c0
  have j1 := RA.out.c1
  have j2 := RA.out.c2
  go_wp2_with fail
  clear j0 j1 j2
  refine (TD.out _ (HX.out.below A1.out)).mono ?_
  rintro e v16 ⟨⟨f0, f1, f2, rfl, rd, gd⟩, hb⟩
  replace A1 : Hid (Below w.heap.size w v16) := A1.out.trans (hb.mono A1.out.size)
  replace W0 : Hid (PlA 0 B1 v16 wa wc n x t) := W0.out.below hb
  replace RA : Hid (Box3 v16 w.heap.size 25 (.slice a0 d.nb c0) (.slice a1 d.nc c1) (.slice a2 d.ns c2)) := RA.out.below hb
  replace M0 : Hid (PlM v16 ga n) := M0.out.below hb
  have V1 : Hid (RowD v16 d (some ⟨f0, 0, none⟩) (some ⟨f1, 0, none⟩) (some ⟨f2, 0, none⟩) f0 f1 f2) := rd
  clear hb rd gd TD
  go_wp2_with fail
  refine (IY.out _ _ _ _ V1.out.diskV (HE.out.1.below A1.out) (HE.out.2.below A1.out) (HT.out.below A1.out)).mono ?_
  rintro e v17 ⟨⟨ha, hc, rfl, hh0⟩, hb⟩
  replace A1 : Hid (Below w.heap.size w v17) := A1.out.trans (hb.mono A1.out.size)
  replace W0 : Hid (PlA 0 B1 v17 wa wc n x t) := W0.out.below hb
  replace RA : Hid (Box3 v17 w.heap.size 25 (.slice a0 d.nb c0) (.slice a1 d.nc c1) (.slice a2 d.ns c2)) := RA.out.below hb
  replace M0 : Hid (PlM v17 ga n) := M0.out.below hb
  replace V1 : Hid (RowD v17 d (some ⟨f0, 0, none⟩) (some ⟨f1, 0, none⟩) (some ⟨f2, 0, none⟩) f0 f1 f2) := V1.out.below hb
  have H0 : Hid (PlA 0 v17.heap.size v17 ha hc n x t) := hh0.imp id (fun ⟨h1, h2, b, h3, h4, h5, h6⟩ => ⟨h1, h2, b, h3, Nat.zero_le _, h5, h6⟩)
  clear hb hh0 IY HX HE HT
  clear V1
  obtain ⟨U2, hU2⟩ : ∃ U, U = v17.heap.size := ⟨_, rfl⟩
  rw [← hU2] at H0
  clear hU2
  go_wp2_with fail
  refine (EQ.out _ _ _ _ _ _ _ _ _ H0.out W0.out).mono ?_
  rintro e v18 ⟨rfl, hb⟩
  replace A1 : Hid (Below w.heap.size w v18) := A1.out.trans (hb.mono A1.out.size)
  replace W0 : Hid (PlA 0 B1 v18 wa wc n x t) := W0.out.below hb
  replace RA : Hid (Box3 v18 w.heap.size 25 (.slice a0 d.nb c0) (.slice a1 d.nc c1) (.slice a2 d.ns c2)) := RA.out.below hb
  replace M0 : Hid (PlM v18 ga n) := M0.out.below hb
  replace H0 : Hid (PlA 0 U2 v18 ha hc n x t) := H0.out.below hb
  clear hb 
  go_wp2_with fail
  refine (HD.out _ _ _ M0.out).mono ?_
  rintro e v19 ⟨rfl, hb⟩
  replace A1 : Hid (Below w.heap.size w v19) := A1.out.trans (hb.mono A1.out.size)
  replace W0 : Hid (PlA 0 B1 v19 wa wc n x t) := W0.out.below hb
  replace RA : Hid (Box3 v19 w.heap.size 25 (.slice a0 d.nb c0) (.slice a1 d.nc c1) (.slice a2 d.ns c2)) := RA.out.below hb
  replace M0 : Hid (PlM v19 ga n) := M0.out.below hb
  replace H0 : Hid (PlA 0 U2 v19 ha hc n x t) := H0.out.below hb
  clear hb HD EQ ED
  go_wp2
  go_ret
  exact ⟨rfl, A1.out⟩
end Go.Proofs.YtbecnaabmlkjjabGreatDoor
