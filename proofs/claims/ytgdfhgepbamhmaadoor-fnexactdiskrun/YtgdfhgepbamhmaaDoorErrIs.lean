/-
  errors.Is over the program's named errors, and the code of an error.
-/
import Derived.Test.YtgdfhgepbamhmaaDoorDiskDefs
import Derived.LaidEql
import Derived.Stop.Asserts
import Derived.RowKitTokens
namespace Go.Proofs.YtgdfhgepbamhmaaDoor
open Go.ChangeShapes Go.WideShapes Go.ChangeAt Go.RowKit Go.Extern.Stop Go.Stop Go.Extern
theorem Tryd.isTypeOf (v : Value) (w : World) : (Extern.ReflectliteType.typeOf #[.iface 97 v]).run Tryd.prog w = .ok (.iface 88 (.agg #[.pointer (some ⟨5, 97, none⟩)])) w := by kernel_rfl
def cmpX : Array Value → Sem Value := Extern.ReflectliteType.method fun t => do Extern.Rtype.noPackHeld "Comparable" t; pure (.bool (← typeInfo t).comparable)
theorem Tryd.isComparable (w : World) : (cmpX #[.agg #[.pointer (some ⟨5, 97, none⟩)]]).run Tryd.prog w = .ok (.bool true) w := by kernel_rfl
theorem Tryd.isMethodComparable (v : Value) (w : World) : (Go.method 235 88 v "Comparable").run Tryd.prog w = .ok (71, v) w := by kernel_rfl
theorem Tryd.isComp : (Tryd.prog.info? 97).map (·.comparable) = some true := by kernel_rfl
theorem Tryd.isSize : (Tryd.prog.info? 123).map (·.size) = some 1 := by kernel_rfl
theorem Tryd.noIsE (v : Value) (xT : TypeId) (w : World) : (Instr.typeAssert (.iface 97 v) xT 90 true).run Tryd.prog w = .ok (.tuple #[.nilIface, .bool false]) w := run_typeAssert_lacksB Tryd.underlying90 (by kernel_rfl) (by kernel_rfl) v xT w
theorem Tryd.noUnwrapE (v : Value) (xT : TypeId) (w : World) : (Instr.typeAssert (.iface 97 v) xT 93 true).run Tryd.prog w = .ok (.tuple #[.nilIface, .bool false]) w := run_typeAssert_lacksB Tryd.underlying93 (by kernel_rfl) (by kernel_rfl) v xT w
theorem Tryd.noUnwrapsE (v : Value) (xT : TypeId) (w : World) : (Instr.typeAssert (.iface 97 v) xT 94 true).run Tryd.prog w = .ok (.tuple #[.nilIface, .bool false]) w := run_typeAssert_lacksB Tryd.underlying94 (by kernel_rfl) (by kernel_rfl) v xT w
set_option maxRecDepth 100000 in
set_option maxHeartbeats 1000000 in
theorem is_same (a : Addr) (w : World) :
    Calls Tryd.prog 39 #[.iface 97 (.pointer (some a)), .iface 97 (.pointer (some a))] w fun e w' => e = .returned (.bool true) ∧ w = w' := by
  obtain ⟨i, hi, hcmp⟩ := Option.map_eq_some_iff.1 Tryd.isComp
  obtain ⟨j, hj, hjs⟩ := Option.map_eq_some_iff.1 Tryd.isSize
  have h8 := @run_callFunc_extern Tryd.prog 48 _ Extern.ReflectliteType.typeOf Tryd.func48 (by kernel_rfl) (by kernel_rfl) (by kernel_rfl) (by kernel_rfl)
  have h32 := @run_callFunc_extern Tryd.prog 71 _ cmpX Tryd.func71 (by kernel_rfl) (by kernel_rfl) (by kernel_rfl) (by kernel_rfl)
  have tT := Tryd.isTypeOf
  have cT := Tryd.isComparable
  have mR := Tryd.isMethodComparable
  have heq := run_eql_iface_ptr_same (P := Tryd.prog) w a Tryd.underlying54 Tryd.underlying97 hi hcmp hj
  go_enter Tryd.func39, Tryd.ntmps39
  go_wp2
  refine wp_loop_rounds 1 ?_
  rw [rounds_succ]
  go_wp2
  go_ret
  exact ⟨rfl, rfl⟩
set_option maxRecDepth 100000 in
theorem is_nil (b : Addr) (w : World) :
    Calls Tryd.prog 39 #[.nilIface, .iface 97 (.pointer (some b))] w fun e w' => e = .returned (.bool false) ∧ w = w' := by
  have hn := run_eql_iface_nil_left (P := Tryd.prog) w 97 (.pointer (some b)) Tryd.underlying54
  go_enter Tryd.func39, Tryd.ntmps39
  go_wp2
  go_ret
  exact ⟨rfl, rfl⟩
set_option maxRecDepth 100000 in
set_option maxHeartbeats 1000000 in
theorem is_other (a b : Addr) (ca cb : Array Value) (ta tb : TypeId) (w : World) (hne : a ≠ b) (ha : w.heap[a.block]? = some (.cells ca ta (0, 0))) (hb : w.heap[b.block]? = some (.cells cb tb (0, 0))) :
    Calls Tryd.prog 39 #[.iface 97 (.pointer (some a)), .iface 97 (.pointer (some b))] w fun e w' => e = .returned (.bool false) ∧ w = w' := by
  obtain ⟨i, hi, hcmp⟩ := Option.map_eq_some_iff.1 Tryd.isComp
  obtain ⟨j, hj, hjs⟩ := Option.map_eq_some_iff.1 Tryd.isSize
  have h8 := @run_callFunc_extern Tryd.prog 48 _ Extern.ReflectliteType.typeOf Tryd.func48 (by kernel_rfl) (by kernel_rfl) (by kernel_rfl) (by kernel_rfl)
  have h32 := @run_callFunc_extern Tryd.prog 71 _ cmpX Tryd.func71 (by kernel_rfl) (by kernel_rfl) (by kernel_rfl) (by kernel_rfl)
  have tT := Tryd.isTypeOf
  have cT := Tryd.isComparable
  have mR := Tryd.isMethodComparable
  have nE := Tryd.noIsE
  have uE := Tryd.noUnwrapE
  have vE := Tryd.noUnwrapsE
  have heq := run_eql_iface_ptr_other (P := Tryd.prog) w Tryd.underlying54 Tryd.underlying97 hi hcmp hj (by rw [hjs]; decide) hne ha hb
  go_enter Tryd.func39, Tryd.ntmps39
  go_wp2
  refine wp_loop_rounds 1 ?_
  rw [rounds_succ]
  go_wp2
  go_ret
  exact ⟨rfl, rfl⟩
/-- The five named errors: each in its variable, no two at one place. -/
structure Errs (w : World) (p0 p1 p2 p3 p4 : Addr) : Prop where
  e0 : ErrAt w 0 p0
  e1 : ErrAt w 1 p1
  e2 : ErrAt w 2 p2
  e3 : ErrAt w 3 p3
  e4 : ErrAt w 4 p4
  r0 : ErrRow w p0
  r1 : ErrRow w p1
  r2 : ErrRow w p2
  r3 : ErrRow w p3
  r4 : ErrRow w p4
  n : p0 ≠ p1 ∧ p0 ≠ p2 ∧ p0 ≠ p3 ∧ p0 ≠ p4 ∧ p1 ≠ p2 ∧ p1 ≠ p3 ∧ p1 ≠ p4 ∧ p2 ≠ p3 ∧ p2 ≠ p4 ∧ p3 ≠ p4
theorem Errs.below {w w' : World} {p0 p1 p2 p3 p4 : Addr} (h : Errs w p0 p1 p2 p3 p4) (hb : Below w.heap.size w w') : Errs w' p0 p1 p2 p3 p4 :=
  ⟨h.e0.below hb, h.e1.below hb, h.e2.below hb, h.e3.below hb, h.e4.below hb, h.r0.below hb, h.r1.below hb, h.r2.below hb, h.r3.below hb, h.r4.below hb, h.n⟩
theorem is_row {w : World} {a b : Addr} (ha : ErrRow w a) (hb : ErrRow w b) (hne : a ≠ b) :
    Calls Tryd.prog 39 #[.iface 97 (.pointer (some a)), .iface 97 (.pointer (some b))] w fun e w' => e = .returned (.bool false) ∧ w = w' := by
  obtain ⟨ca, ta, ha⟩ := ha
  obtain ⟨cb, tb, hb⟩ := hb
  exact is_other a b ca cb ta tb w hne ha hb
set_option maxRecDepth 100000 in
set_option maxHeartbeats 1000000 in
theorem diskCode_nil (p0 p1 p2 p3 p4 : Addr) (w : World) (h : Errs w p0 p1 p2 p3 p4) :
    Calls Tryd.prog 23 #[.nilIface] w fun e w' => e = .returned (.int .i64 0) ∧ w = w' := by
  have k0 : w.cell? _ = _ := h.e0
  have k1 : w.cell? _ = _ := h.e1
  have k2 : w.cell? _ = _ := h.e2
  have k3 : w.cell? _ = _ := h.e3
  have k4 : w.cell? _ = _ := h.e4
  clear h
  go_enter Tryd.func23, Tryd.ntmps23
  go_wp2_with fail
  refine (is_nil _ _).mono ?_
  rintro e w1 ⟨rfl, rfl⟩
  go_wp2_with fail
  refine (is_nil _ _).mono ?_
  rintro e w1 ⟨rfl, rfl⟩
  go_wp2_with fail
  refine (is_nil _ _).mono ?_
  rintro e w1 ⟨rfl, rfl⟩
  go_wp2_with fail
  refine (is_nil _ _).mono ?_
  rintro e w1 ⟨rfl, rfl⟩
  go_wp2_with fail
  refine (is_nil _ _).mono ?_
  rintro e w1 ⟨rfl, rfl⟩
  go_wp2
  go_ret
  exact ⟨rfl, rfl⟩
set_option maxRecDepth 100000 in
set_option maxHeartbeats 1000000 in
theorem diskCode_0 (p0 p1 p2 p3 p4 : Addr) (w : World) (h : Errs w p0 p1 p2 p3 p4) :
    Calls Tryd.prog 23 #[.iface 97 (.pointer (some p0))] w fun e w' => e = .returned (.int .i64 4) ∧ w = w' := by
  have k0 : w.cell? _ = _ := h.e0
  clear h 
  go_enter Tryd.func23, Tryd.ntmps23
  go_wp2_with fail
  refine (is_same _ _).mono ?_
  rintro e w1 ⟨rfl, rfl⟩
  go_wp2
  go_ret
  exact ⟨rfl, rfl⟩
set_option maxRecDepth 100000 in
set_option maxHeartbeats 1000000 in
theorem diskCode_1 (p0 p1 p2 p3 p4 : Addr) (w : World) (h : Errs w p0 p1 p2 p3 p4) :
    Calls Tryd.prog 23 #[.iface 97 (.pointer (some p1))] w fun e w' => e = .returned (.int .i64 2) ∧ w = w' := by
  have k0 : w.cell? _ = _ := h.e0
  have k1 : w.cell? _ = _ := h.e1
  have q0 := is_row h.r1 h.r0 (Ne.symm h.n.1)
  have Q0 : Hid _ := q0
  clear h q0
  go_enter Tryd.func23, Tryd.ntmps23
  go_wp2_with fail
  refine (Calls.mono Q0.out) ?_
  rintro e w1 ⟨rfl, rfl⟩
  go_wp2_with fail
  refine (is_same _ _).mono ?_
  rintro e w1 ⟨rfl, rfl⟩
  go_wp2
  go_ret
  exact ⟨rfl, rfl⟩
set_option maxRecDepth 100000 in
set_option maxHeartbeats 1000000 in
theorem diskCode_2 (p0 p1 p2 p3 p4 : Addr) (w : World) (h : Errs w p0 p1 p2 p3 p4) :
    Calls Tryd.prog 23 #[.iface 97 (.pointer (some p2))] w fun e w' => e = .returned (.int .i64 7) ∧ w = w' := by
  have k0 : w.cell? _ = _ := h.e0
  have k1 : w.cell? _ = _ := h.e1
  have k2 : w.cell? _ = _ := h.e2
  have q0 := is_row h.r2 h.r0 (Ne.symm h.n.2.1)
  have q1 := is_row h.r2 h.r1 (Ne.symm h.n.2.2.2.2.1)
  have Q0 : Hid _ := q0
  have Q1 : Hid _ := q1
  clear h q0 q1
  go_enter Tryd.func23, Tryd.ntmps23
  go_wp2_with fail
  refine (Calls.mono Q0.out) ?_
  rintro e w1 ⟨rfl, rfl⟩
  go_wp2_with fail
  refine (Calls.mono Q1.out) ?_
  rintro e w1 ⟨rfl, rfl⟩
  go_wp2_with fail
  refine (is_same _ _).mono ?_
  rintro e w1 ⟨rfl, rfl⟩
  go_wp2
  go_ret
  exact ⟨rfl, rfl⟩
set_option maxRecDepth 100000 in
set_option maxHeartbeats 1000000 in
theorem diskCode_3 (p0 p1 p2 p3 p4 : Addr) (w : World) (h : Errs w p0 p1 p2 p3 p4) :
    Calls Tryd.prog 23 #[.iface 97 (.pointer (some p3))] w fun e w' => e = .returned (.int .i64 5) ∧ w = w' := by
  have k0 : w.cell? _ = _ := h.e0
  have k1 : w.cell? _ = _ := h.e1
  have k2 : w.cell? _ = _ := h.e2
  have k3 : w.cell? _ = _ := h.e3
  have q0 := is_row h.r3 h.r0 (Ne.symm h.n.2.2.1)
  have q1 := is_row h.r3 h.r1 (Ne.symm h.n.2.2.2.2.2.1)
  have q2 := is_row h.r3 h.r2 (Ne.symm h.n.2.2.2.2.2.2.2.1)
  have Q0 : Hid _ := q0
  have Q1 : Hid _ := q1
  have Q2 : Hid _ := q2
  clear h q0 q1 q2
  go_enter Tryd.func23, Tryd.ntmps23
  go_wp2_with fail
  refine (Calls.mono Q0.out) ?_
  rintro e w1 ⟨rfl, rfl⟩
  go_wp2_with fail
  refine (Calls.mono Q1.out) ?_
  rintro e w1 ⟨rfl, rfl⟩
  go_wp2_with fail
  refine (Calls.mono Q2.out) ?_
  rintro e w1 ⟨rfl, rfl⟩
  go_wp2_with fail
  refine (is_same _ _).mono ?_
  rintro e w1 ⟨rfl, rfl⟩
  go_wp2
  go_ret
  exact ⟨rfl, rfl⟩
set_option maxRecDepth 100000 in
set_option maxHeartbeats 1000000 in
theorem diskCode_4 (p0 p1 p2 p3 p4 : Addr) (w : World) (h : Errs w p0 p1 p2 p3 p4) :
    Calls Tryd.prog 23 #[.iface 97 (.pointer (some p4))] w fun e w' => e = .returned (.int .i64 3) ∧ w = w' := by
  have k0 : w.cell? _ = _ := h.e0
  have k1 : w.cell? _ = _ := h.e1
  have k2 : w.cell? _ = _ := h.e2
  have k3 : w.cell? _ = _ := h.e3
  have k4 : w.cell? _ = _ := h.e4
  have q0 := is_row h.r4 h.r0 (Ne.symm h.n.2.2.2.1)
  have q1 := is_row h.r4 h.r1 (Ne.symm h.n.2.2.2.2.2.2.1)
  have q2 := is_row h.r4 h.r2 (Ne.symm h.n.2.2.2.2.2.2.2.2.1)
  have q3 := is_row h.r4 h.r3 (Ne.symm h.n.2.2.2.2.2.2.2.2.2)
  have Q0 : Hid _ := q0
  have Q1 : Hid _ := q1
  have Q2 : Hid _ := q2
  have Q3 : Hid _ := q3
  clear h q0 q1 q2 q3
  go_enter Tryd.func23, Tryd.ntmps23
  go_wp2_with fail
  refine (Calls.mono Q0.out) ?_
  rintro e w1 ⟨rfl, rfl⟩
  go_wp2_with fail
  refine (Calls.mono Q1.out) ?_
  rintro e w1 ⟨rfl, rfl⟩
  go_wp2_with fail
  refine (Calls.mono Q2.out) ?_
  rintro e w1 ⟨rfl, rfl⟩
  go_wp2_with fail
  refine (Calls.mono Q3.out) ?_
  rintro e w1 ⟨rfl, rfl⟩
  go_wp2_with fail
  refine (is_same _ _).mono ?_
  rintro e w1 ⟨rfl, rfl⟩
  go_wp2
  go_ret
  exact ⟨rfl, rfl⟩
end Go.Proofs.YtgdfhgepbamhmaaDoor
