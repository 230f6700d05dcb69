/-
  Texts of the proof, joined: PutN.
-/
import Derived.Test.YtpngjkhncfbnpaaDoorV39
namespace Go.Proofs.YtpngjkhncfbnpaaDoor
open Go.ChangeShapes Go.WideShapes Go.ChangeAt Go.RowKit
set_option linter.unusedVariables false
theorem grown_of {w u w' : World} {o : Option Nat} (hb : Below w.heap.size w u) (hg : u.grownBy w' o) : w.grownBy w' o := ⟨hg.os.trans hb.os, hg.tape.trans hb.tape, hg.output.trans hb.output, Nat.le_trans hb.size hg.size, fun g h1 h2 => (hg.block g (Nat.lt_of_lt_of_le h1 hb.size) h2).trans (hb.block g h1)⟩
def PutRg (w : World) (B : Nat) (v : Value) (n : Nat) (R : Nat → Rg) (e : Ending) (w' : World) : Prop := (∃ v', e = .returned v' ∧ EO w' B 54 3 v' (n + 1) (rgF R) ∧ (v'.ownBlock = v.ownBlock ∨ ∃ g, v'.ownBlock = some g ∧ w.heap.size ≤ g)) ∧ w.grownBy w' v.ownBlock
set_option maxRecDepth 100000 in
set_option maxHeartbeats 1000000 in
theorem putRg_new (B : Nat) (a : Option Addr) (n c k : Nat) (R : Nat → Rg) (x : Rg) (hP : Pos (fun i => (R i).v) n x.v k) (hno : ¬ (k < n ∧ (R k).v = x.v)) (hn : n ≤ 100000) (w : World) (hB : B ≤ w.heap.size) (h : EO w B 54 3 (.slice a n c) n (rgF R)) :
    Calls Tryd.prog 111 #[.slice a n c, .int .i64 x.v, .agg #[.int .i64 x.v, .int .i64 x.c, .string x.r], .func (.func 58) #[] #[]] w fun e w' => PutRg w B (.slice a n c) n (insE R k x) e w' := by
  have QE : Hid (∀ (w : World), Els w 3 a n (rgF R) → Calls Tryd.prog 95 #[.slice a n c, .int .i64 x.v, .func (.func 58) #[] #[]] w fun e w' => e = .returned (.tuple #[.int .i64 k, .bool false]) ∧ Below w.heap.size w w') := fun w hw => searchRegister_any _ n c R x.v k hP (by omega) w hw false (okB_no hno).symm
  have E : Hid (EO w B 54 3 (.slice a n c) n (rgF R)) := h
  have A1 : Hid (Below w.heap.size w (w.alloc (.cells #[.int .i64 x.v, .int .i64 x.c, .string x.r] 54))) := (Below.refl _ _).alloc (Nat.le_refl _) _
  have X : Hid (Box3 (w.alloc (.cells #[.int .i64 x.v, .int .i64 x.c, .string x.r] 54)) w.heap.size 54 (.int .i64 x.v) (.int .i64 x.c) (.string x.r)) := Box3.madeAt rfl _ _ _ _
  have IN : Hid (∀ (w : World) (q : Nat), B ≤ w.heap.size → EO w B 54 3 (.slice a n c) n (rgF R) → Box3 w q 54 (.int .i64 x.v) (.int .i64 x.c) (.string x.r) → (Value.slice a n c).ownBlock ≠ some q → Calls Tryd.prog 116 #[.slice a n c, .int .i64 k, .slice (some ⟨q, 0, none⟩) 1 1] w fun e w' => InsRg w B (.slice a n c) n (insE R k x) e w') := fun w q h1 h2 h3 h4 => insRg_any w B a n c q k R x hP.1 h1 hn h2 h3 h4
  clear h hP hno
  go_enter Tryd.func111, Tryd.ntmps111
  go_wp2_with fail
  generalize (w.alloc (.cells #[.int .i64 x.v, .int .i64 x.c, .string x.r] 54)) = v1 at *
  refine (QE.out _ (E.out.els.below A1.out)).mono ?_
  rintro e v2 ⟨rfl, hb⟩
  have A2 : Hid (Below w.heap.size w v2) := A1.out.trans (hb.mono A1.out.size)
  replace X : Hid (Box3 v2 w.heap.size 54 (.int .i64 x.v) (.int .i64 x.c) (.string x.r)) := X.out.below hb
  have x0 := X.out.c0
  have x1 := X.out.c1
  have x2 := X.out.c2
  have A3 : Hid (Below w.heap.size w (v2.alloc (.cells #[.int .i64 x.v, .int .i64 x.c, .string x.r] 54))) := A2.out.alloc A2.out.size _
  have X3 : Box3 (v2.alloc (.cells #[.int .i64 x.v, .int .i64 x.c, .string x.r] 54)) v2.heap.size 54 (.int .i64 x.v) (.int .i64 x.c) (.string x.r) := Box3.madeAt rfl _ _ _ _
  have C3 : Hid (Box3 (v2.alloc (.cells #[.int .i64 x.v, .int .i64 x.c, .string x.r] 54)) v2.heap.size 54 (.int .i64 x.v) (.int .i64 x.c) (.string x.r)) := X3
  have N3 : Hid ((Value.slice a n c).ownBlock ≠ some v2.heap.size) := fun e => absurd (EO.ge (E.out.below A2.out) _ e).2 (Nat.lt_irrefl _)
  clear hb X3 QE A1 X
  go_wp2_with fail
  generalize (v2.alloc (.cells #[.int .i64 x.v, .int .i64 x.c, .string x.r] 54)) = v3 at *
  refine (IN.out _ _ (Nat.le_trans hB A3.out.size) (E.out.below A3.out) C3.out N3.out).mono ?_
  rintro e v4 ⟨⟨v', rfl, ho, hloc⟩, hg⟩
  have HP : Hid (PutRg w B (.slice a n c) n (insE R k x) (.returned v') v4) := ⟨⟨v', rfl, ho, hloc.imp id (fun e => ⟨_, e, A3.out.size⟩)⟩, grown_of A3.out hg⟩
  clear ho hloc hg E A2 A3 C3 IN N3
  go_wp2
  go_ret
  exact HP.out
def PutSe (w : World) (B : Nat) (v : Value) (n : Nat) (R : Nat → Se) (e : Ending) (w' : World) : Prop := (∃ v', e = .returned v' ∧ EO w' B 100 4 v' (n + 1) (seF R) ∧ (v'.ownBlock = v.ownBlock ∨ ∃ g, v'.ownBlock = some g ∧ w.heap.size ≤ g)) ∧ w.grownBy w' v.ownBlock
set_option maxRecDepth 100000 in
set_option maxHeartbeats 1000000 in
theorem putSe_new (B : Nat) (a : Option Addr) (n c k : Nat) (R : Nat → Se) (x : Se) (hP : Pos (fun i => (R i).id) n x.id k) (hno : ¬ (k < n ∧ (R k).id = x.id)) (hn : n ≤ 100000) (w : World) (hB : B ≤ w.heap.size) (h : EO w B 100 4 (.slice a n c) n (seF R)) :
    Calls Tryd.prog 92 #[.slice a n c, .int .i64 x.id, .agg #[.int .i64 x.id, .int .i64 x.sq, .int .i64 x.cd, .int .i64 x.ma], .func (.func 90) #[] #[]] w fun e w' => PutSe w B (.slice a n c) n (insE R k x) e w' := by
  have QE : Hid (∀ (w : World), Els w 4 a n (seF R) → Calls Tryd.prog 109 #[.slice a n c, .int .i64 x.id, .func (.func 90) #[] #[]] w fun e w' => e = .returned (.tuple #[.int .i64 k, .bool false]) ∧ Below w.heap.size w w') := fun w hw => searchSession_any _ n c R x.id k hP (by omega) w hw false (okB_no hno).symm
  have E : Hid (EO w B 100 4 (.slice a n c) n (seF R)) := h
  have A1 : Hid (Below w.heap.size w (w.alloc (.cells #[.int .i64 x.id, .int .i64 x.sq, .int .i64 x.cd, .int .i64 x.ma] 100))) := (Below.refl _ _).alloc (Nat.le_refl _) _
  have X : Hid (Box4 (w.alloc (.cells #[.int .i64 x.id, .int .i64 x.sq, .int .i64 x.cd, .int .i64 x.ma] 100)) w.heap.size 100 (.int .i64 x.id) (.int .i64 x.sq) (.int .i64 x.cd) (.int .i64 x.ma)) := Box4.madeAt rfl _ _ _ _ _
  have IN : Hid (∀ (w : World) (q : Nat), B ≤ w.heap.size → EO w B 100 4 (.slice a n c) n (seF R) → Box4 w q 100 (.int .i64 x.id) (.int .i64 x.sq) (.int .i64 x.cd) (.int .i64 x.ma) → (Value.slice a n c).ownBlock ≠ some q → Calls Tryd.prog 112 #[.slice a n c, .int .i64 k, .slice (some ⟨q, 0, none⟩) 1 1] w fun e w' => InsSe w B (.slice a n c) n (insE R k x) e w') := fun w q h1 h2 h3 h4 => insSe_any w B a n c q k R x hP.1 h1 hn h2 h3 h4
  clear h hP hno
  go_enter Tryd.func92, Tryd.ntmps92
  go_wp2_with fail
  generalize (w.alloc (.cells #[.int .i64 x.id, .int .i64 x.sq, .int .i64 x.cd, .int .i64 x.ma] 100)) = v1 at *
  refine (QE.out _ (E.out.els.below A1.out)).mono ?_
  rintro e v2 ⟨rfl, hb⟩
  have A2 : Hid (Below w.heap.size w v2) := A1.out.trans (hb.mono A1.out.size)
  replace X : Hid (Box4 v2 w.heap.size 100 (.int .i64 x.id) (.int .i64 x.sq) (.int .i64 x.cd) (.int .i64 x.ma)) := X.out.below hb
  have x0 := X.out.c0
  have x1 := X.out.c1
  have x2 := X.out.c2
  have x3 := X.out.c3
  have A3 : Hid (Below w.heap.size w (v2.alloc (.cells #[.int .i64 x.id, .int .i64 x.sq, .int .i64 x.cd, .int .i64 x.ma] 100))) := A2.out.alloc A2.out.size _
  have X3 : Box4 (v2.alloc (.cells #[.int .i64 x.id, .int .i64 x.sq, .int .i64 x.cd, .int .i64 x.ma] 100)) v2.heap.size 100 (.int .i64 x.id) (.int .i64 x.sq) (.int .i64 x.cd) (.int .i64 x.ma) := Box4.madeAt rfl _ _ _ _ _
  have C3 : Hid (Box4 (v2.alloc (.cells #[.int .i64 x.id, .int .i64 x.sq, .int .i64 x.cd, .int .i64 x.ma] 100)) v2.heap.size 100 (.int .i64 x.id) (.int .i64 x.sq) (.int .i64 x.cd) (.int .i64 x.ma)) := X3
  have N3 : Hid ((Value.slice a n c).ownBlock ≠ some v2.heap.size) := fun e => absurd (EO.ge (E.out.below A2.out) _ e).2 (Nat.lt_irrefl _)
  clear hb X3 QE A1 X
  go_wp2_with fail
  generalize (v2.alloc (.cells #[.int .i64 x.id, .int .i64 x.sq, .int .i64 x.cd, .int .i64 x.ma] 100)) = v3 at *
  refine (IN.out _ _ (Nat.le_trans hB A3.out.size) (E.out.below A3.out) C3.out N3.out).mono ?_
  rintro e v4 ⟨⟨v', rfl, ho, hloc⟩, hg⟩
  have HP : Hid (PutSe w B (.slice a n c) n (insE R k x) (.returned v') v4) := ⟨⟨v', rfl, ho, hloc.imp id (fun e => ⟨_, e, A3.out.size⟩)⟩, grown_of A3.out hg⟩
  clear ho hloc hg E A2 A3 C3 IN N3
  go_wp2
  go_ret
  exact HP.out
end Go.Proofs.YtpngjkhncfbnpaaDoor
