/-
  A drive at work: one act.
-/
import Derived.Test.YtgdfhgepbamhmaaDoorDriveWr
import Derived.Test.YtgdfhgepbamhmaaDoorDriveCr
namespace Go.Proofs.YtgdfhgepbamhmaaDoor
open Go.ChangeShapes Go.WideShapes Go.ChangeAt Go.RowKit
set_option linter.unusedVariables false
/-- An act. -/
structure Ac where
  kd : Int
  x : Int
  s : ByteArray
  nk : Nat
  K : Nat → Bool
  t : Int
/-- d behind a save. -/
def Dk.saved (d : Dk) : Dk := ⟨d.nb, d.B, d.nc, d.A, d.D, d.nb, d.B⟩
/-- Which fault an act has: 0 for none. -/
def Dk.fault (d : Dk) (a : Ac) : Nat :=
  if a.kd = 1 then if 0 ≤ a.x ∧ a.x < d.nb then if 200 < a.s.size then 2 else if 4096 ≤ d.nc then 3 else 0 else 1
  else if a.kd = 2 ∨ a.kd = 3 ∨ a.kd = 4 then 0
  else if a.kd = 5 then if d.ns = 0 then 4 else 0
  else if a.kd = 6 then if 0 ≤ a.x ∧ a.x < d.nb then if 200 < a.s.size then 2 else 0 else 1
  else 5
/-- d behind an act that has no fault. -/
def Dk.acted (d : Dk) (a : Ac) : Dk :=
  if a.kd = 1 then d.written a.x a.s else if a.kd = 2 then d.synced else if a.kd = 3 then d.crashed a.nk a.K a.t else if a.kd = 4 then d.saved else if a.kd = 5 then d.rolled else d.tampered a.x.toNat a.s
/-- d behind an act. -/
def Dk.done (d : Dk) (a : Ac) : Dk := if d.fault a = 0 then d.acted a else d
def faultP (p0 p1 p2 p3 p4 : Addr) : Nat → Value
  | 0 => .nilIface
  | 1 => .iface 97 (.pointer (some p0))
  | 2 => .iface 97 (.pointer (some p1))
  | 3 => .iface 97 (.pointer (some p2))
  | 4 => .iface 97 (.pointer (some p3))
  | _ => .iface 97 (.pointer (some p4))
def DoPost (B q b : Nat) (d : Dk) (a : Ac) (p0 p1 p2 p3 p4 : Addr) (w : World) (e : Ending) (w' : World) : Prop := e = .returned (faultP p0 p1 p2 p3 p4 (d.fault a)) ∧ (∃ v0 v1 v2, Drv w' B q b (d.done a) v0 v1 v2) ∧ Below B w w'
/-- The same, and what is not the drive's stays. -/
def DoPostK (B q b : Nat) (d : Dk) (a : Ac) (p0 p1 p2 p3 p4 : Addr) (v0 v1 v2 : Value) (w : World) (e : Ending) (w' : World) : Prop := e = .returned (faultP p0 p1 p2 p3 p4 (d.fault a)) ∧ (∃ u0 u1 u2, Drv w' B q b (d.done a) u0 u1 u2 ∧ KpD q b v0 v1 v2 u0 u1 u2 w w') ∧ Below B w w'
set_option maxRecDepth 100000 in
set_option maxHeartbeats 2000000 in
theorem do_write (B q b : Nat) (d : Dk) (a : Ac) (v0 v1 v2 : Value) (ak : Option Addr) (ck : Nat) (p0 p1 p2 p3 p4 : Addr) (hd : d.Ok) (w : World) (hBw : B ≤ w.heap.size) (hE : Errs w p0 p1 p2 p3 p4) (h : Drv w B q b d v0 v1 v2) (hk : a.kd = 1) :
    Calls Tryd.prog 24 #[.pointer (some ⟨q, 0, none⟩), .agg #[.int .i64 1, .int .i64 a.x, .string a.s, .slice ak a.nk ck, .int .i64 a.t]] w (DoPostK B q b d a p0 p1 p2 p3 p4 v0 v1 v2 w) := by
  have bA : Below w.heap.size w (w.alloc (.cells #[.int .i64 1, .int .i64 a.x, .string a.s, .slice ak a.nk ck, .int .i64 a.t] 46)) := (Below.refl _ _).alloc (Nat.le_refl _) _
  have bB : Hid (Below B w (w.alloc (.cells #[.int .i64 1, .int .i64 a.x, .string a.s, .slice ak a.nk ck, .int .i64 a.t] 46))) := bA.mono hBw
  have bA0 : Hid (Below w.heap.size w (w.alloc (.cells #[.int .i64 1, .int .i64 a.x, .string a.s, .slice ak a.nk ck, .int .i64 a.t] 46))) := bA
  have H1 := h.below bA
  have E1 := hE.below bA
  have hB1 : B ≤ (w.alloc (.cells #[.int .i64 1, .int .i64 a.x, .string a.s, .slice ak a.nk ck, .int .i64 a.t] 46)).heap.size := Nat.le_trans hBw bA.size
  have CC : Hid (Calls Tryd.prog 40 #[.pointer (some ⟨q, 0, none⟩), .int .i64 a.x, .string a.s] (w.alloc (.cells #[.int .i64 1, .int .i64 a.x, .string a.s, .slice ak a.nk ck, .int .i64 a.t] 46)) fun e w' => e = .returned (faultP p0 p1 p2 p3 p4 (d.fault a)) ∧ (∃ u0 u1 u2, Drv w' B q b (d.done a) u0 u1 u2 ∧ KpD q b v0 v1 v2 u0 u1 u2 (w.alloc (.cells #[.int .i64 1, .int .i64 a.x, .string a.s, .slice ak a.nk ck, .int .i64 a.t] 46)) w') ∧ Below B (w.alloc (.cells #[.int .i64 1, .int .i64 a.x, .string a.s, .slice ak a.nk ck, .int .i64 a.t] 46)) w') := by
    by_cases hx : 0 ≤ a.x ∧ a.x < d.nb
    · by_cases hs : 200 < a.s.size
      · have f : d.fault a = 2 := by unfold Dk.fault; simp only [hk]; simp [hx, hs]
        have g : d.done a = d := by unfold Dk.done; rw [f]; rfl
        rw [f, g]
        exact (write_no B q b d v0 v1 v2 a.x a.s p1 _ H1 p0 p1 E1.e0 E1.e1 (.inr ⟨hx.1, hx.2, hs, rfl⟩)).mono (fun e w' ⟨q1, q2⟩ => ⟨q1, ⟨_, _, _, H1.below q2, KpD.same q2⟩, q2.mono hB1⟩)
      · by_cases hc : 4096 ≤ d.nc
        · have f : d.fault a = 3 := by unfold Dk.fault; simp only [hk]; simp [hx, hs, hc]
          have g : d.done a = d := by unfold Dk.done; rw [f]; rfl
          rw [f, g]
          have hxe : ((a.x.toNat : Nat) : Int) = a.x := by omega
          have key := write_full B q b d v0 v1 v2 a.x.toNat a.s (by omega) (by omega) hc p2 _ H1 E1.e2
          rw [hxe] at key
          exact key.mono (fun e w' ⟨q1, q2⟩ => ⟨q1, ⟨_, _, _, H1.below q2, KpD.same q2⟩, q2.mono hB1⟩)
        · have f : d.fault a = 0 := by unfold Dk.fault; simp only [hk]; simp [hx, hs, hc]
          have g : d.done a = d.written a.x a.s := by unfold Dk.done; rw [f]; unfold Dk.acted; simp [hk]
          rw [f, g]
          have hxe : ((a.x.toNat : Nat) : Int) = a.x := by omega
          have key := write_yesK B q b d v0 v1 v2 a.x.toNat a.s (by omega) (by omega) (by omega) _ hB1 H1
          rw [hxe] at key
          exact key.mono (fun e w' ⟨q1, ⟨v, q2, q4⟩, q3⟩ => ⟨q1, ⟨_, _, _, q2, q4⟩, q3⟩)
    · have f : d.fault a = 1 := by unfold Dk.fault; simp only [hk]; simp [hx]
      have g : d.done a = d := by unfold Dk.done; rw [f]; rfl
      rw [f, g]
      exact (write_no B q b d v0 v1 v2 a.x a.s p0 _ H1 p0 p1 E1.e0 E1.e1 (.inl ⟨hx, rfl⟩)).mono (fun e w' ⟨q1, q2⟩ => ⟨q1, ⟨_, _, _, H1.below q2, KpD.same q2⟩, q2.mono hB1⟩)
  clear H1 E1 bA h hE
  go_enter Tryd.func24, Tryd.ntmps24
  go_wp2_with fail
  refine (Calls.mono CC.out) ?_
  rintro e w1 ⟨rfl, hv, hb⟩
  have HV : Hid (∃ u0 u1 u2, Drv w1 B q b (d.done a) u0 u1 u2 ∧ KpD q b v0 v1 v2 u0 u1 u2 w w1) := by
    obtain ⟨u0, u1, u2, k1, k2⟩ := hv
    exact ⟨u0, u1, u2, k1, (KpD.same bA0.out).trans bA0.out.size k2⟩
  have HB : Hid (Below B w w1) := bB.out.trans hb
  clear hv hb CC bB bA0
  go_wp2
  go_ret
  exact ⟨rfl, HV.out, HB.out⟩
set_option maxRecDepth 100000 in
set_option maxHeartbeats 2000000 in
theorem do_tamper (B q b : Nat) (d : Dk) (a : Ac) (v0 v1 v2 : Value) (ak : Option Addr) (ck : Nat) (p0 p1 p2 p3 p4 : Addr) (hd : d.Ok) (w : World) (hBw : B ≤ w.heap.size) (hE : Errs w p0 p1 p2 p3 p4) (h : Drv w B q b d v0 v1 v2) (hk : a.kd = 6) :
    Calls Tryd.prog 24 #[.pointer (some ⟨q, 0, none⟩), .agg #[.int .i64 6, .int .i64 a.x, .string a.s, .slice ak a.nk ck, .int .i64 a.t]] w (DoPostK B q b d a p0 p1 p2 p3 p4 v0 v1 v2 w) := by
  have bA : Below w.heap.size w (w.alloc (.cells #[.int .i64 6, .int .i64 a.x, .string a.s, .slice ak a.nk ck, .int .i64 a.t] 46)) := (Below.refl _ _).alloc (Nat.le_refl _) _
  have bB : Hid (Below B w (w.alloc (.cells #[.int .i64 6, .int .i64 a.x, .string a.s, .slice ak a.nk ck, .int .i64 a.t] 46))) := bA.mono hBw
  have bA0 : Hid (Below w.heap.size w (w.alloc (.cells #[.int .i64 6, .int .i64 a.x, .string a.s, .slice ak a.nk ck, .int .i64 a.t] 46))) := bA
  have H1 := h.below bA
  have E1 := hE.below bA
  have hB1 : B ≤ (w.alloc (.cells #[.int .i64 6, .int .i64 a.x, .string a.s, .slice ak a.nk ck, .int .i64 a.t] 46)).heap.size := Nat.le_trans hBw bA.size
  have CC : Hid (Calls Tryd.prog 45 #[.pointer (some ⟨q, 0, none⟩), .int .i64 a.x, .string a.s] (w.alloc (.cells #[.int .i64 6, .int .i64 a.x, .string a.s, .slice ak a.nk ck, .int .i64 a.t] 46)) fun e w' => e = .returned (faultP p0 p1 p2 p3 p4 (d.fault a)) ∧ (∃ u0 u1 u2, Drv w' B q b (d.done a) u0 u1 u2 ∧ KpD q b v0 v1 v2 u0 u1 u2 (w.alloc (.cells #[.int .i64 6, .int .i64 a.x, .string a.s, .slice ak a.nk ck, .int .i64 a.t] 46)) w') ∧ Below B (w.alloc (.cells #[.int .i64 6, .int .i64 a.x, .string a.s, .slice ak a.nk ck, .int .i64 a.t] 46)) w') := by
    by_cases hx : 0 ≤ a.x ∧ a.x < d.nb
    · by_cases hs : 200 < a.s.size
      · have f : d.fault a = 2 := by unfold Dk.fault; simp only [hk]; simp [hx, hs]
        have g : d.done a = d := by unfold Dk.done; rw [f]; rfl
        rw [f, g]
        exact (tamper_no B q b d v0 v1 v2 a.x a.s p1 _ H1 p0 p1 E1.e0 E1.e1 (.inr ⟨hx.1, hx.2, hs, rfl⟩)).mono (fun e w' ⟨q1, q2⟩ => ⟨q1, ⟨_, _, _, H1.below q2, KpD.same q2⟩, q2.mono hB1⟩)
      · have f : d.fault a = 0 := by unfold Dk.fault; simp only [hk]; simp [hx, hs]
        have g : d.done a = d.tampered a.x.toNat a.s := by unfold Dk.done; rw [f]; unfold Dk.acted; simp [hk]
        rw [f, g]
        have hxe : ((a.x.toNat : Nat) : Int) = a.x := by omega
        have key := tamper_yesK B q b d v0 v1 v2 a.x.toNat a.s (by omega) (by omega) hd.nb2 _ H1
        rw [hxe] at key
        exact key.mono (fun e w' ⟨q1, q2, q3, q4⟩ => ⟨q1, ⟨_, _, _, q2, q4⟩, q3⟩)
    · have f : d.fault a = 1 := by unfold Dk.fault; simp only [hk]; simp [hx]
      have g : d.done a = d := by unfold Dk.done; rw [f]; rfl
      rw [f, g]
      exact (tamper_no B q b d v0 v1 v2 a.x a.s p0 _ H1 p0 p1 E1.e0 E1.e1 (.inl ⟨hx, rfl⟩)).mono (fun e w' ⟨q1, q2⟩ => ⟨q1, ⟨_, _, _, H1.below q2, KpD.same q2⟩, q2.mono hB1⟩)
  clear H1 E1 bA h hE
  go_enter Tryd.func24, Tryd.ntmps24
  go_wp2_with fail
  refine (Calls.mono CC.out) ?_
  rintro e w1 ⟨rfl, hv, hb⟩
  have HV : Hid (∃ u0 u1 u2, Drv w1 B q b (d.done a) u0 u1 u2 ∧ KpD q b v0 v1 v2 u0 u1 u2 w w1) := by
    obtain ⟨u0, u1, u2, k1, k2⟩ := hv
    exact ⟨u0, u1, u2, k1, (KpD.same bA0.out).trans bA0.out.size k2⟩
  have HB : Hid (Below B w w1) := bB.out.trans hb
  clear hv hb CC bB bA0
  go_wp2
  go_ret
  exact ⟨rfl, HV.out, HB.out⟩
set_option maxRecDepth 100000 in
set_option maxHeartbeats 2000000 in
theorem do_sync (B q b : Nat) (d : Dk) (a : Ac) (v0 v1 v2 : Value) (ak : Option Addr) (ck : Nat) (p0 p1 p2 p3 p4 : Addr) (hd : d.Ok) (w : World) (hBw : B ≤ w.heap.size) (hE : Errs w p0 p1 p2 p3 p4) (h : Drv w B q b d v0 v1 v2) (hk : a.kd = 2) :
    Calls Tryd.prog 24 #[.pointer (some ⟨q, 0, none⟩), .agg #[.int .i64 2, .int .i64 a.x, .string a.s, .slice ak a.nk ck, .int .i64 a.t]] w (DoPostK B q b d a p0 p1 p2 p3 p4 v0 v1 v2 w) := by
  have bA : Below w.heap.size w (w.alloc (.cells #[.int .i64 2, .int .i64 a.x, .string a.s, .slice ak a.nk ck, .int .i64 a.t] 46)) := (Below.refl _ _).alloc (Nat.le_refl _) _
  have bB : Hid (Below B w (w.alloc (.cells #[.int .i64 2, .int .i64 a.x, .string a.s, .slice ak a.nk ck, .int .i64 a.t] 46))) := bA.mono hBw
  have bA0 : Hid (Below w.heap.size w (w.alloc (.cells #[.int .i64 2, .int .i64 a.x, .string a.s, .slice ak a.nk ck, .int .i64 a.t] 46))) := bA
  have H1 := h.below bA
  have E1 := hE.below bA
  have hB1 : B ≤ (w.alloc (.cells #[.int .i64 2, .int .i64 a.x, .string a.s, .slice ak a.nk ck, .int .i64 a.t] 46)).heap.size := Nat.le_trans hBw bA.size
  have f : d.fault a = 0 := by unfold Dk.fault; simp [hk]
  have g : d.done a = d.synced := by unfold Dk.done; rw [f]; unfold Dk.acted; simp [hk]
  have CC : Hid (Calls Tryd.prog 41 #[.pointer (some ⟨q, 0, none⟩)] (w.alloc (.cells #[.int .i64 2, .int .i64 a.x, .string a.s, .slice ak a.nk ck, .int .i64 a.t] 46)) fun e w' => e = .returned (.tuple #[]) ∧ Drv w' B q b (d.synced) v0 (.slice none 0 0) v2 ∧ Below B (w.alloc (.cells #[.int .i64 2, .int .i64 a.x, .string a.s, .slice ak a.nk ck, .int .i64 a.t] 46)) w' ∧ KpD q b v0 v1 v2 v0 (.slice none 0 0) v2 (w.alloc (.cells #[.int .i64 2, .int .i64 a.x, .string a.s, .slice ak a.nk ck, .int .i64 a.t] 46)) w') := sync_anyK B q b d v0 v1 v2 (fun i hi => (hd.C i hi).1) hd.nb2 _ hB1 H1
  clear H1 E1 bA h hE
  go_enter Tryd.func24, Tryd.ntmps24
  go_wp2_with fail
  refine (Calls.mono CC.out) ?_
  rintro e w1 ⟨rfl, hv, hb, hkp⟩
  have HP : Hid (DoPostK B q b d a p0 p1 p2 p3 p4 v0 v1 v2 w (.returned .nilIface) w1) := ⟨by rw [f]; rfl, ⟨_, _, _, by rw [g]; exact hv, (KpD.same bA0.out).trans bA0.out.size hkp⟩, bB.out.trans hb⟩
  clear hv hb hkp CC bB bA0 f g
  go_wp2
  go_ret
  exact HP.out
set_option maxRecDepth 100000 in
set_option maxHeartbeats 2000000 in
theorem do_crash (B q b : Nat) (d : Dk) (a : Ac) (v0 v1 v2 : Value) (ak : Option Addr) (ck : Nat) (p0 p1 p2 p3 p4 : Addr) (hd : d.Ok) (w : World) (hBw : B ≤ w.heap.size) (hE : Errs w p0 p1 p2 p3 p4) (h : Drv w B q b d v0 v1 v2) (hk : a.kd = 3) (hnk : a.nk ≤ 1048576) (hK : Bls w B ak a.nk a.K) :
    Calls Tryd.prog 24 #[.pointer (some ⟨q, 0, none⟩), .agg #[.int .i64 3, .int .i64 a.x, .string a.s, .slice ak a.nk ck, .int .i64 a.t]] w (DoPostK B q b d a p0 p1 p2 p3 p4 v0 v1 v2 w) := by
  have bA : Below w.heap.size w (w.alloc (.cells #[.int .i64 3, .int .i64 a.x, .string a.s, .slice ak a.nk ck, .int .i64 a.t] 46)) := (Below.refl _ _).alloc (Nat.le_refl _) _
  have bB : Hid (Below B w (w.alloc (.cells #[.int .i64 3, .int .i64 a.x, .string a.s, .slice ak a.nk ck, .int .i64 a.t] 46))) := bA.mono hBw
  have bA0 : Hid (Below w.heap.size w (w.alloc (.cells #[.int .i64 3, .int .i64 a.x, .string a.s, .slice ak a.nk ck, .int .i64 a.t] 46))) := bA
  have H1 := h.below bA
  have E1 := hE.below bA
  have hB1 : B ≤ (w.alloc (.cells #[.int .i64 3, .int .i64 a.x, .string a.s, .slice ak a.nk ck, .int .i64 a.t] 46)).heap.size := Nat.le_trans hBw bA.size
  have f : d.fault a = 0 := by unfold Dk.fault; simp [hk]
  have g : d.done a = d.crashed a.nk a.K a.t := by unfold Dk.done; rw [f]; unfold Dk.acted; simp [hk]
  have CC : Hid (Calls Tryd.prog 42 #[.pointer (some ⟨q, 0, none⟩), .slice ak a.nk ck, .int .i64 a.t] (w.alloc (.cells #[.int .i64 3, .int .i64 a.x, .string a.s, .slice ak a.nk ck, .int .i64 a.t] 46)) fun e w' => e = .returned (.tuple #[]) ∧ Drv w' B q b (d.crashed a.nk a.K a.t) v0 (.slice none 0 0) v2 ∧ Below B (w.alloc (.cells #[.int .i64 3, .int .i64 a.x, .string a.s, .slice ak a.nk ck, .int .i64 a.t] 46)) w' ∧ KpD q b v0 v1 v2 v0 (.slice none 0 0) v2 (w.alloc (.cells #[.int .i64 3, .int .i64 a.x, .string a.s, .slice ak a.nk ck, .int .i64 a.t] 46)) w') := crash_anyK B q b d v0 v1 v2 ak a.nk ck a.K a.t (fun i hi => (hd.C i hi).1) hd.B (fun i hi => (hd.C i hi).2) hd.nb2 hd.nc hnk _ hB1 H1 (hK.below bB.out)
  clear H1 E1 bA h hE hK
  go_enter Tryd.func24, Tryd.ntmps24
  go_wp2_with fail
  refine (Calls.mono CC.out) ?_
  rintro e w1 ⟨rfl, hv, hb, hkp⟩
  have HP : Hid (DoPostK B q b d a p0 p1 p2 p3 p4 v0 v1 v2 w (.returned .nilIface) w1) := ⟨by rw [f]; rfl, ⟨_, _, _, by rw [g]; exact hv, (KpD.same bA0.out).trans bA0.out.size hkp⟩, bB.out.trans hb⟩
  clear hv hb hkp CC bB bA0 f g
  go_wp2
  go_ret
  exact HP.out
set_option maxRecDepth 100000 in
set_option maxHeartbeats 2000000 in
theorem do_roll (B q b : Nat) (d : Dk) (a : Ac) (v0 v1 v2 : Value) (ak : Option Addr) (ck : Nat) (p0 p1 p2 p3 p4 : Addr) (hd : d.Ok) (w : World) (hBw : B ≤ w.heap.size) (hE : Errs w p0 p1 p2 p3 p4) (h : Drv w B q b d v0 v1 v2) (hk : a.kd = 5) :
    Calls Tryd.prog 24 #[.pointer (some ⟨q, 0, none⟩), .agg #[.int .i64 5, .int .i64 a.x, .string a.s, .slice ak a.nk ck, .int .i64 a.t]] w (DoPostK B q b d a p0 p1 p2 p3 p4 v0 v1 v2 w) := by
  have bA : Below w.heap.size w (w.alloc (.cells #[.int .i64 5, .int .i64 a.x, .string a.s, .slice ak a.nk ck, .int .i64 a.t] 46)) := (Below.refl _ _).alloc (Nat.le_refl _) _
  have bB : Hid (Below B w (w.alloc (.cells #[.int .i64 5, .int .i64 a.x, .string a.s, .slice ak a.nk ck, .int .i64 a.t] 46))) := bA.mono hBw
  have bA0 : Hid (Below w.heap.size w (w.alloc (.cells #[.int .i64 5, .int .i64 a.x, .string a.s, .slice ak a.nk ck, .int .i64 a.t] 46))) := bA
  have H1 := h.below bA
  have E1 := hE.below bA
  have hB1 : B ≤ (w.alloc (.cells #[.int .i64 5, .int .i64 a.x, .string a.s, .slice ak a.nk ck, .int .i64 a.t] 46)).heap.size := Nat.le_trans hBw bA.size
  have CC : Hid (Calls Tryd.prog 44 #[.pointer (some ⟨q, 0, none⟩)] (w.alloc (.cells #[.int .i64 5, .int .i64 a.x, .string a.s, .slice ak a.nk ck, .int .i64 a.t] 46)) fun e w' => e = .returned (faultP p0 p1 p2 p3 p4 (d.fault a)) ∧ (∃ u0 u1 u2, Drv w' B q b (d.done a) u0 u1 u2 ∧ KpD q b v0 v1 v2 u0 u1 u2 (w.alloc (.cells #[.int .i64 5, .int .i64 a.x, .string a.s, .slice ak a.nk ck, .int .i64 a.t] 46)) w') ∧ Below B (w.alloc (.cells #[.int .i64 5, .int .i64 a.x, .string a.s, .slice ak a.nk ck, .int .i64 a.t] 46)) w') := by
    by_cases hs : d.ns = 0
    · have f : d.fault a = 4 := by unfold Dk.fault; simp [hk, hs]
      have g : d.done a = d := by unfold Dk.done; rw [f]; rfl
      rw [f, g]
      exact (rollBack_no B q b d v0 v1 v2 hs p3 _ H1 E1.e3).mono (fun e w' ⟨q1, q2⟩ => ⟨q1, ⟨_, _, _, q2 ▸ H1, q2 ▸ KpD.same (Below.refl _ _)⟩, q2 ▸ Below.refl _ _⟩)
    · have f : d.fault a = 0 := by unfold Dk.fault; simp [hk, hs]
      have g : d.done a = d.rolled := by unfold Dk.done; rw [f]; unfold Dk.acted; simp [hk]
      rw [f, g]
      exact (rollBack_yesK B q b d v0 v1 v2 (by omega) (by have := hd.ns; have := hd.nb2; omega) _ hB1 H1).mono (fun e w' ⟨q1, ⟨v, q2, q4⟩, q3⟩ => ⟨q1, ⟨_, _, _, q2, q4⟩, q3⟩)
  clear H1 E1 bA h hE
  go_enter Tryd.func24, Tryd.ntmps24
  go_wp2_with fail
  refine (Calls.mono CC.out) ?_
  rintro e w1 ⟨rfl, hv, hb⟩
  have HV : Hid (∃ u0 u1 u2, Drv w1 B q b (d.done a) u0 u1 u2 ∧ KpD q b v0 v1 v2 u0 u1 u2 w w1) := by
    obtain ⟨u0, u1, u2, k1, k2⟩ := hv
    exact ⟨u0, u1, u2, k1, (KpD.same bA0.out).trans bA0.out.size k2⟩
  have HB : Hid (Below B w w1) := bB.out.trans hb
  clear hv hb CC bB bA0
  go_wp2
  go_ret
  exact ⟨rfl, HV.out, HB.out⟩
set_option maxRecDepth 100000 in
set_option maxHeartbeats 2000000 in
theorem do_none (B q b : Nat) (d : Dk) (a : Ac) (v0 v1 v2 : Value) (ak : Option Addr) (ck : Nat) (p0 p1 p2 p3 p4 : Addr) (hd : d.Ok) (w : World) (hBw : B ≤ w.heap.size) (hE : Errs w p0 p1 p2 p3 p4) (h : Drv w B q b d v0 v1 v2) (hk : a.kd ≠ 1 ∧ a.kd ≠ 2 ∧ a.kd ≠ 3 ∧ a.kd ≠ 4 ∧ a.kd ≠ 5 ∧ a.kd ≠ 6) :
    Calls Tryd.prog 24 #[.pointer (some ⟨q, 0, none⟩), .agg #[.int .i64 a.kd, .int .i64 a.x, .string a.s, .slice ak a.nk ck, .int .i64 a.t]] w (DoPostK B q b d a p0 p1 p2 p3 p4 v0 v1 v2 w) := by
  have bA : Below w.heap.size w (w.alloc (.cells #[.int .i64 a.kd, .int .i64 a.x, .string a.s, .slice ak a.nk ck, .int .i64 a.t] 46)) := (Below.refl _ _).alloc (Nat.le_refl _) _
  have bB : Hid (Below B w (w.alloc (.cells #[.int .i64 a.kd, .int .i64 a.x, .string a.s, .slice ak a.nk ck, .int .i64 a.t] 46))) := bA.mono hBw
  have bA0 : Hid (Below w.heap.size w (w.alloc (.cells #[.int .i64 a.kd, .int .i64 a.x, .string a.s, .slice ak a.nk ck, .int .i64 a.t] 46))) := bA
  have H1 := h.below bA
  have E1 := hE.below bA
  have hB1 : B ≤ (w.alloc (.cells #[.int .i64 a.kd, .int .i64 a.x, .string a.s, .slice ak a.nk ck, .int .i64 a.t] 46)).heap.size := Nat.le_trans hBw bA.size
  have f : d.fault a = 5 := by unfold Dk.fault; simp [hk]
  have g : d.done a = d := by unfold Dk.done; rw [f]; rfl
  have n1 : (a.kd == 1) = false := by simp [hk]
  have n2 : (a.kd == 2) = false := by simp [hk]
  have n3 : (a.kd == 3) = false := by simp [hk]
  have n4 : (a.kd == 4) = false := by simp [hk]
  have n5 : (a.kd == 5) = false := by simp [hk]
  have n6 : (a.kd == 6) = false := by simp [hk]
  have e4 : ((w.alloc (.cells #[.int .i64 a.kd, .int .i64 a.x, .string a.s, .slice ak a.nk ck, .int .i64 a.t] 46))).cell? _ = _ := E1.e4
  have HP : Hid (DoPostK B q b d a p0 p1 p2 p3 p4 v0 v1 v2 w (.returned (.iface 97 (.pointer (some p4)))) (w.alloc (.cells #[.int .i64 a.kd, .int .i64 a.x, .string a.s, .slice ak a.nk ck, .int .i64 a.t] 46))) := ⟨by rw [f]; rfl, ⟨_, _, _, by rw [g]; exact H1, KpD.same bA⟩, bB.out⟩
  clear H1 E1 bA h hE bB bA0 f g hk
  go_enter Tryd.func24, Tryd.ntmps24
  go_wp2
  go_ret
  exact HP.out
set_option maxRecDepth 100000 in
set_option maxHeartbeats 2000000 in
theorem do_save (B q b : Nat) (d : Dk) (a : Ac) (v0 v1 v2 : Value) (ak : Option Addr) (ck : Nat) (p0 p1 p2 p3 p4 : Addr) (hd : d.Ok) (w : World) (hBw : B ≤ w.heap.size) (hE : Errs w p0 p1 p2 p3 p4) (h : Drv w B q b d v0 v1 v2) (hk : a.kd = 4) :
    Calls Tryd.prog 24 #[.pointer (some ⟨q, 0, none⟩), .agg #[.int .i64 4, .int .i64 a.x, .string a.s, .slice ak a.nk ck, .int .i64 a.t]] w (DoPostK B q b d a p0 p1 p2 p3 p4 v0 v1 v2 w) := by
  have bA : Below w.heap.size w (w.alloc (.cells #[.int .i64 4, .int .i64 a.x, .string a.s, .slice ak a.nk ck, .int .i64 a.t] 46)) := (Below.refl _ _).alloc (Nat.le_refl _) _
  have bB : Hid (Below B w (w.alloc (.cells #[.int .i64 4, .int .i64 a.x, .string a.s, .slice ak a.nk ck, .int .i64 a.t] 46))) := bA.mono hBw
  have bA0 : Hid (Below w.heap.size w (w.alloc (.cells #[.int .i64 4, .int .i64 a.x, .string a.s, .slice ak a.nk ck, .int .i64 a.t] 46))) := bA
  have H1 := h.below bA
  have E1 := hE.below bA
  have hB1 : B ≤ (w.alloc (.cells #[.int .i64 4, .int .i64 a.x, .string a.s, .slice ak a.nk ck, .int .i64 a.t] 46)).heap.size := Nat.le_trans hBw bA.size
  have f : d.fault a = 0 := by unfold Dk.fault; simp [hk]
  have g : d.done a = d.saved := by unfold Dk.done; rw [f]; unfold Dk.acted; simp [hk]
  obtain ⟨g0, c0, rfl, r0, hBg, hc0, hgl⟩ := H1.t0.pos hd.nb1
  have CC : Hid (Calls Tryd.prog 43 #[.slice (some ⟨g0, 0, none⟩) d.nb c0] (w.alloc (.cells #[.int .i64 4, .int .i64 a.x, .string a.s, .slice ak a.nk ck, .int .i64 a.t] 46)) fun e w' => (∃ v, e = .returned v ∧ TxR w' ((w.alloc (.cells #[.int .i64 4, .int .i64 a.x, .string a.s, .slice ak a.nk ck, .int .i64 a.t] 46))).heap.size v d.nb d.B) ∧ Below ((w.alloc (.cells #[.int .i64 4, .int .i64 a.x, .string a.s, .slice ak a.nk ck, .int .i64 a.t] 46))).heap.size (w.alloc (.cells #[.int .i64 4, .int .i64 a.x, .string a.s, .slice ak a.nk ck, .int .i64 a.t] 46)) w') := copiedBlocks_any _ _ _ _ (by have := hd.nb2; omega) (fun e => by cases e) _ r0.strs
  have HD : Hid (Drv (w.alloc (.cells #[.int .i64 4, .int .i64 a.x, .string a.s, .slice ak a.nk ck, .int .i64 a.t] 46)) B q b d (.slice (some ⟨g0, 0, none⟩) d.nb c0) v1 v2) := H1
  have k0 := H1.box.c0
  have hql := h.box.lt
  have hbl := h.m.lt
  have hal : ((w.alloc (.cells #[.int .i64 4, .int .i64 a.x, .string a.s, .slice ak a.nk ck, .int .i64 a.t] 46))).heap.size = w.heap.size + 1 := by simp
  clear H1 E1 bA h hE r0
  go_enter Tryd.func24, Tryd.ntmps24
  go_wp2_with fail
  refine (Calls.mono CC.out) ?_
  rintro e w1 ⟨⟨v, rfl, hv⟩, hb⟩
  obtain ⟨gv, cv, rfl, -, hgv, -, hgvl⟩ := hv.pos hd.nb1
  have H1 := HD.out.below hb
  have k2 := H1.box.c2
  have f2 := H1.box.fr 2
  have hql1 : q < w1.heap.size := H1.box.lt
  have O1 : OnlyB q w1 (w1.setCell ⟨q, 2, none⟩ (.slice (some ⟨gv, 0, none⟩) d.nb cv)) := (OnlyB.refl q w1).setCell 2 _
  have nq : gv ≠ q := by omega
  have nbv : gv ≠ b := by omega
  have n0 : gv ≠ g0 := by omega
  have ltg : ∀ k, v1.ownBlock = some k → k ≠ gv := fun k e => by have := (World.ownsRow.lt HD.out.t1 k e).2; omega
  have HF : Hid (Drv (w1.setCell ⟨q, 2, none⟩ (.slice (some ⟨gv, 0, none⟩) d.nb cv)) B q b d.saved (.slice (some ⟨g0, 0, none⟩) d.nb c0) v1 (.slice (some ⟨gv, 0, none⟩) d.nb cv)) :=
    ⟨H1.box.set2 _, H1.t0.onlyB O1 H1.s0.1, H1.t1.onlyB O1 H1.s1.1, own_mono (hv.onlyB O1 (fun e => nq (Option.some.inj e))) hB1, H1.m.onlyB O1 (Ne.symm H1.qb), H1.s0, H1.s1, ⟨fun e => nq (Option.some.inj e), fun e => nbv (Option.some.inj e)⟩, H1.qb, H1.n01, fun k e1 e2 => n0 (Option.some.inj (e2.trans e1.symm)), fun k e1 e2 => ltg k e1 (Option.some.inj e2.symm), H1.hq, H1.hb⟩
  have HB : Hid (Below B w (w1.setCell ⟨q, 2, none⟩ (.slice (some ⟨gv, 0, none⟩) d.nb cv))) := (bB.out.trans (hb.mono hB1)).trans (O1.toBelow H1.hq (by have := hb.size; omega))
  have KP : KpD q b (.slice (some ⟨g0, 0, none⟩) d.nb c0) v1 v2 (.slice (some ⟨g0, 0, none⟩) d.nb c0) v1 (.slice (some ⟨gv, 0, none⟩) d.nb cv) w (w1.setCell ⟨q, 2, none⟩ (.slice (some ⟨gv, 0, none⟩) d.nb cv)) := fun C hC hN => by
    have l1 := Nat.lt_of_lt_of_le hC bA0.out.size
    exact ⟨(O1.block C (Nat.lt_of_lt_of_le l1 hb.size) hN.1).trans ((hb.block C l1).trans (bA0.out.block C hC)), hN.1, hN.2.1, hN.2.2.1, hN.2.2.2.1, fun e => by have e' : gv = C := Option.some.inj e; omega⟩
  have HP : Hid (DoPostK B q b d a p0 p1 p2 p3 p4 (.slice (some ⟨g0, 0, none⟩) d.nb c0) v1 v2 w (.returned .nilIface) (w1.setCell ⟨q, 2, none⟩ (.slice (some ⟨gv, 0, none⟩) d.nb cv))) := ⟨by rw [f]; rfl, ⟨_, _, _, by rw [g]; exact HF.out, KP⟩, HB.out⟩
  clear KP bA0 H1 O1 nq nbv n0 ltg hv hb HF HB f g k0 CC HD
  go_wp2
  go_ret
  exact HP.out
theorem do_anyK (B q b : Nat) (d : Dk) (a : Ac) (v0 v1 v2 : Value) (ak : Option Addr) (ck : Nat) (p0 p1 p2 p3 p4 : Addr) (hd : d.Ok) (w : World) (hBw : B ≤ w.heap.size) (hE : Errs w p0 p1 p2 p3 p4) (h : Drv w B q b d v0 v1 v2) (hnk : a.nk ≤ 1048576) (hK : Bls w B ak a.nk a.K) :
    Calls Tryd.prog 24 #[.pointer (some ⟨q, 0, none⟩), .agg #[.int .i64 a.kd, .int .i64 a.x, .string a.s, .slice ak a.nk ck, .int .i64 a.t]] w (DoPostK B q b d a p0 p1 p2 p3 p4 v0 v1 v2 w) := by
  by_cases h1 : a.kd = 1
  · rw [h1]; exact do_write B q b d a v0 v1 v2 ak ck p0 p1 p2 p3 p4 hd w hBw hE h h1
  by_cases h2 : a.kd = 2
  · rw [h2]; exact do_sync B q b d a v0 v1 v2 ak ck p0 p1 p2 p3 p4 hd w hBw hE h h2
  by_cases h3 : a.kd = 3
  · rw [h3]; exact do_crash B q b d a v0 v1 v2 ak ck p0 p1 p2 p3 p4 hd w hBw hE h h3 hnk hK
  by_cases h4 : a.kd = 4
  · rw [h4]; exact do_save B q b d a v0 v1 v2 ak ck p0 p1 p2 p3 p4 hd w hBw hE h h4
  by_cases h5 : a.kd = 5
  · rw [h5]; exact do_roll B q b d a v0 v1 v2 ak ck p0 p1 p2 p3 p4 hd w hBw hE h h5
  by_cases h6 : a.kd = 6
  · rw [h6]; exact do_tamper B q b d a v0 v1 v2 ak ck p0 p1 p2 p3 p4 hd w hBw hE h h6
  exact do_none B q b d a v0 v1 v2 ak ck p0 p1 p2 p3 p4 hd w hBw hE h ⟨h1, h2, h3, h4, h5, h6⟩
theorem do_any (B q b : Nat) (d : Dk) (a : Ac) (v0 v1 v2 : Value) (ak : Option Addr) (ck : Nat) (p0 p1 p2 p3 p4 : Addr) (hd : d.Ok) (w : World) (hBw : B ≤ w.heap.size) (hE : Errs w p0 p1 p2 p3 p4) (h : Drv w B q b d v0 v1 v2) (hnk : a.nk ≤ 1048576) (hK : Bls w B ak a.nk a.K) :
    Calls Tryd.prog 24 #[.pointer (some ⟨q, 0, none⟩), .agg #[.int .i64 a.kd, .int .i64 a.x, .string a.s, .slice ak a.nk ck, .int .i64 a.t]] w (DoPost B q b d a p0 p1 p2 p3 p4 w) :=
  (do_anyK B q b d a v0 v1 v2 ak ck p0 p1 p2 p3 p4 hd w hBw hE h hnk hK).mono fun _ _ z => ⟨z.1, z.2.1.elim fun u0 y => y.elim fun u1 y => y.elim fun u2 y => ⟨u0, u1, u2, y.1⟩, z.2.2⟩
end Go.Proofs.YtgdfhgepbamhmaaDoor
