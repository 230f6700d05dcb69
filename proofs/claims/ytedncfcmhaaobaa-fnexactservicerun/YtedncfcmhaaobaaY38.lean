/-
  Texts of the proof, joined: QuHm.
-/
import Derived.Test.YtedncfcmhaaobaaY37
namespace Go.Proofs.Ytedncfcmhaaobaa
open Go.ChangeShapes Go.WideShapes Go.ChangeAt Go.RowKit
set_option linter.unusedVariables false
def PS (vr vw vq : Value) (s : Sv) (VR VW VQ : Nat → Value) (u : Nat) : Prop := PA vr VR s.n u ∨ PA vw VW s.m u ∨ PA vq VQ s.l u
set_option maxRecDepth 100000 in
set_option maxHeartbeats 4000000 in
theorem markSv_c (B : Nat) (s : Sv) (p : Sa) (hm : s.max 300) (w : World) (VR VW VQ : Nat → Value) (ho : SvO w B s (.slice p.a s.n p.ca) (.slice p.b s.m p.cb) (.slice p.d s.l p.cd) VR VW VQ) (hd : SvD s VR VW VQ) (hB : B ≤ w.heap.size) :
  Calls Try.prog 15 #[.agg #[.slice p.a s.n p.ca, .int .i64 s.t, .slice p.b s.m p.cb, .slice p.d s.l p.cd], .int .i64 1] w fun e w' => e = .returned (.int .i64 ((endS s : Nat) : Int)) ∧ SvO w' B (mkS s) (.slice p.a s.n p.ca) (.slice p.b s.m p.cb) (.slice p.d s.l p.cd) VR VW VQ ∧ Below B w w' ∧ (∀ (b : Nat) (x y z m : Value), Box4 w b 28 x y z m → Box4 w' b 28 x y z m) ∧ ChB (PS (.slice p.a s.n p.ca) (.slice p.b s.m p.cb) (.slice p.d s.l p.cd) s VR VW VQ) w w' := by
 have hl := endS_le hm
 have b0 : Below w.heap.size w (w.alloc (.cells #[.slice p.a s.n p.ca, .int .i64 s.t, .slice p.b s.m p.cb, .slice p.d s.l p.cd] 28)) := (Below.refl _ _).alloc (Nat.le_refl _) _
 have A1 : Hid (Below B w (w.alloc (.cells #[.slice p.a s.n p.ca, .int .i64 s.t, .slice p.b s.m p.cb, .slice p.d s.l p.cd] 28))) := b0.mono hB
 have X : Hid (Box4 (w.alloc (.cells #[.slice p.a s.n p.ca, .int .i64 s.t, .slice p.b s.m p.cb, .slice p.d s.l p.cd] 28)) w.heap.size 28 (.slice p.a s.n p.ca) (.int .i64 s.t) (.slice p.b s.m p.cb) (.slice p.d s.l p.cd)) := Box4.madeAt rfl _ _ _ _ _
 have KB : Hid (∀ (b : Nat) (x y z m : Value), Box4 w b 28 x y z m → Box4 (w.alloc (.cells #[.slice p.a s.n p.ca, .int .i64 s.t, .slice p.b s.m p.cb, .slice p.d s.l p.cd] 28)) b 28 x y z m) := fun b x y z m hb => hb.below b0
 have CS : Hid (ChB (PS (.slice p.a s.n p.ca) (.slice p.b s.m p.cb) (.slice p.d s.l p.cd) s VR VW VQ) w (w.alloc (.cells #[.slice p.a s.n p.ca, .int .i64 s.t, .slice p.b s.m p.cb, .slice p.d s.l p.cd] 28))) := (ChB.refl _ w).alloc _
 have HD : Hid (SvD s VR VW VQ) := hd
 have O0 : Hid (SvO (w.alloc (.cells #[.slice p.a s.n p.ca, .int .i64 s.t, .slice p.b s.m p.cb, .slice p.d s.l p.cd] 28)) B s (.slice p.a s.n p.ca) (.slice p.b s.m p.cb) (.slice p.d s.l p.cd) VR VW VQ) := ho.below b0
 have BV : Hid (B ≤ (w.alloc (.cells #[.slice p.a s.n p.ca, .int .i64 s.t, .slice p.b s.m p.cb, .slice p.d s.l p.cd] 28)).heap.size) := Nat.le_trans hB b0.size
 have m1 : ({ s with R := hfR 1 s.R s.n } : Sv).max 300 := mx_R s _ (fun i _ => hfR_ne _ _ _ _) hm
 have m2 : ({ s with R := hfR 1 s.R s.n, W := hfW (adR 1 s.R s.n) s.W s.m } : Sv).max 300 := mx_W { s with R := hfR 1 s.R s.n } _ (fun i _ => hfW_ne _ _ _ _) m1
 have R1 : Hid (∀ u, B ≤ u.heap.size → SvO u B s (.slice p.a s.n p.ca) (.slice p.b s.m p.cb) (.slice p.d s.l p.cd) VR VW VQ → Calls Try.prog 43 #[.slice p.a s.n p.ca, .int .i64 1] u fun e w' => e = .returned (.int .i64 ((adR 1 s.R s.n : Nat) : Int)) ∧ SvO w' B { s with R := hfR 1 s.R s.n } (.slice p.a s.n p.ca) (.slice p.b s.m p.cb) (.slice p.d s.l p.cd) VR VW VQ ∧ ChB (PA (.slice p.a s.n p.ca) VR s.n) u w') := fun u hu h => markReplicaS_o B s 1 hm (by omega) u p.a p.ca _ _ VR VW VQ h HD.out hu
 have R2 : Hid (∀ u, B ≤ u.heap.size → SvO u B { s with R := hfR 1 s.R s.n } (.slice p.a s.n p.ca) (.slice p.b s.m p.cb) (.slice p.d s.l p.cd) VR VW VQ → Calls Try.prog 44 #[.slice p.b s.m p.cb, .int .i64 ((adR 1 s.R s.n : Nat) : Int)] u fun e w' => e = .returned (.int .i64 ((adW (adR 1 s.R s.n) s.W s.m : Nat) : Int)) ∧ SvO w' B { s with R := hfR 1 s.R s.n, W := hfW (adR 1 s.R s.n) s.W s.m } (.slice p.a s.n p.ca) (.slice p.b s.m p.cb) (.slice p.d s.l p.cd) VR VW VQ ∧ ChB (PA (.slice p.b s.m p.cb) VW s.m) u w') := fun u hu h => markWriteOpS_o B { s with R := hfR 1 s.R s.n } _ m1 (by omega) u p.b p.cb _ _ VR VW VQ h HD.out hu
 have R3 : Hid (∀ u, B ≤ u.heap.size → SvO u B { s with R := hfR 1 s.R s.n, W := hfW (adR 1 s.R s.n) s.W s.m } (.slice p.a s.n p.ca) (.slice p.b s.m p.cb) (.slice p.d s.l p.cd) VR VW VQ → Calls Try.prog 45 #[.slice p.d s.l p.cd, .int .i64 ((adW (adR 1 s.R s.n) s.W s.m : Nat) : Int)] u fun e w' => e = .returned (.int .i64 ((endS s : Nat) : Int)) ∧ SvO w' B (mkS s) (.slice p.a s.n p.ca) (.slice p.b s.m p.cb) (.slice p.d s.l p.cd) VR VW VQ ∧ ChB (PA (.slice p.d s.l p.cd) VQ s.l) u w') := fun u hu h => markReadOpS_o B { s with R := hfR 1 s.R s.n, W := hfW (adR 1 s.R s.n) s.W s.m } _ m2 (by omega) u p.d p.cd _ _ VR VW VQ h HD.out hu
 have PB : Hid (∀ (u u' : World) (a : Option Addr) (c n k : Nat) (t : TypeId) (F : Nat → Nat → Value) (V : Nat → Value), B ≤ u.heap.size → EO u B t k (.slice a n c) n F → (∀ i, i < n → ∃ ne E, IE u B (V i) ne E) → ChB (PA (.slice a n c) V n) u u' → Below B u u') := fun u u' a c n k t F V hu he hv hc => hc.toBelow (fun g z => by
  rcases z with z | ⟨i, hi, z⟩
  ·exact (he.ge g z).1
  ·obtain ⟨ne, E, hI⟩ := hv i hi
   exact (EO.ge hI g z).1) hu
 clear ho hd hB b0 hl m1 m2 hm
 go_enter Try.func15, Try.ntmps15
 have x0 := X.out.c0
 go_wp2_with fail
 generalize (w.alloc (.cells #[.slice p.a s.n p.ca, .int .i64 s.t, .slice p.b s.m p.cb, .slice p.d s.l p.cd] 28)) = v at *
 refine (R1.out _ BV.out O0.out).mono ?_
 rintro e v1 ⟨rfl, hO, hC⟩
 have hV : ∀ i, i < s.n → ∃ ne E, IE v B (VR i) ne E := fun i hi => ⟨_, _, O0.out.e i hi⟩
 replace X : Hid (Box4 v1 w.heap.size 28 (.slice p.a s.n p.ca) (.int .i64 s.t) (.slice p.b s.m p.cb) (.slice p.d s.l p.cd)) := X.out.ch hC (pa_box O0.out.r hV X.out (by decide))
 replace KB : Hid (∀ (b : Nat) (x y z m : Value), Box4 w b 28 x y z m → Box4 v1 b 28 x y z m) := fun b x y z m hb => (KB.out _ _ _ _ _ hb).ch hC (pa_box O0.out.r hV (KB.out _ _ _ _ _ hb) (by decide))
 replace CS : Hid (ChB (PS (.slice p.a s.n p.ca) (.slice p.b s.m p.cb) (.slice p.d s.l p.cd) s VR VW VQ) w v1) := CS.out.trans (hC.wide (fun u z => .inl z))
 replace A1 : Hid (Below B w v1) := A1.out.trans (PB.out _ _ _ _ _ _ _ _ _ BV.out O0.out.r hV hC)
 replace BV : Hid (B ≤ v1.heap.size) := Nat.le_trans BV.out hC.size
 clear O0 R1
 have O1 : Hid (SvO v1 B { s with R := hfR 1 s.R s.n } (.slice p.a s.n p.ca) (.slice p.b s.m p.cb) (.slice p.d s.l p.cd) VR VW VQ) := hO
 clear hO hC hV x0
 have x2 := X.out.c2
 go_wp2_with fail
 refine (R2.out _ BV.out O1.out).mono ?_
 rintro e v2 ⟨rfl, hO, hC⟩
 have hV : ∀ i, i < s.m → ∃ ne E, IE v1 B (VW i) ne E := fun i hi => ⟨_, _, O1.out.a i hi⟩
 replace X : Hid (Box4 v2 w.heap.size 28 (.slice p.a s.n p.ca) (.int .i64 s.t) (.slice p.b s.m p.cb) (.slice p.d s.l p.cd)) := X.out.ch hC (pa_box O1.out.x hV X.out (by decide))
 replace KB : Hid (∀ (b : Nat) (x y z m : Value), Box4 w b 28 x y z m → Box4 v2 b 28 x y z m) := fun b x y z m hb => (KB.out _ _ _ _ _ hb).ch hC (pa_box O1.out.x hV (KB.out _ _ _ _ _ hb) (by decide))
 replace CS : Hid (ChB (PS (.slice p.a s.n p.ca) (.slice p.b s.m p.cb) (.slice p.d s.l p.cd) s VR VW VQ) w v2) := CS.out.trans (hC.wide (fun u z => .inr (.inl z)))
 replace A1 : Hid (Below B w v2) := A1.out.trans (PB.out _ _ _ _ _ _ _ _ _ BV.out O1.out.x hV hC)
 replace BV : Hid (B ≤ v2.heap.size) := Nat.le_trans BV.out hC.size
 clear O1 R2
 have O2 : Hid (SvO v2 B { s with R := hfR 1 s.R s.n, W := hfW (adR 1 s.R s.n) s.W s.m } (.slice p.a s.n p.ca) (.slice p.b s.m p.cb) (.slice p.d s.l p.cd) VR VW VQ) := hO
 clear hO hC hV x2
 have x3 := X.out.c3
 go_wp2_with fail
 refine (R3.out _ BV.out O2.out).mono ?_
 rintro e v3 ⟨rfl, hO, hC⟩
 have hV : ∀ i, i < s.l → ∃ ne E, IE v2 B (VQ i) ne E := fun i hi => ⟨_, _, O2.out.f i hi⟩
 replace KB : Hid (∀ (b : Nat) (x y z m : Value), Box4 w b 28 x y z m → Box4 v3 b 28 x y z m) := fun b x y z m hb => (KB.out _ _ _ _ _ hb).ch hC (pa_box O2.out.q hV (KB.out _ _ _ _ _ hb) (by decide))
 replace CS : Hid (ChB (PS (.slice p.a s.n p.ca) (.slice p.b s.m p.cb) (.slice p.d s.l p.cd) s VR VW VQ) w v3) := CS.out.trans (hC.wide (fun u z => .inr (.inr z)))
 replace A1 : Hid (Below B w v3) := A1.out.trans (PB.out _ _ _ _ _ _ _ _ _ BV.out O2.out.q hV hC)
 have O3 : Hid (SvO v3 B (mkS s) (.slice p.a s.n p.ca) (.slice p.b s.m p.cb) (.slice p.d s.l p.cd) VR VW VQ) := hO
 clear hO hC hV x3 O2 R3 PB BV X HD
 go_wp2
 go_ret
 exact ⟨rfl, O3.out, A1.out, KB.out, CS.out⟩
end Go.Proofs.Ytedncfcmhaaobaa
